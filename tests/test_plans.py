"""Tests of bytebridge.plans: points 265 to 267, and its section of the interface."""

import copy
import random
import unittest

from bridge_samples import random_conversions
from bytebridge.converting import Converter
from bytebridge.delays import late_message, profile
from bytebridge.errors import UnexpectedByte
from bytebridge.linking import Bridge
from bytebridge.machine import Machine, flaw
from bytebridge.plans import compiled, folded
from bytebridge.source import read_layout
from delay_samples import sized_conversions
from plan_oracle import FULL, PlanMaker, Refused, SlowMachine, codes_of, entry_of, folding_faults

ANY = ("bits", 0, 0)
STEPS = {"bits": 2, "byte": 2, "free": 1, "check": 2, "mark": 3, "table": 3, "when": 4, "jump": 2}


def bridge_of(source, target):
    return Bridge(read_layout(source), read_layout(target))


def result_of(run, data):
    """What a call returns, or the place of the unexpected byte, with all that can be seen afterwards."""
    try:
        found = run.take(list(data))
    except UnexpectedByte as error:
        found = error.place
    return (found, run.received, run.sent, run.done)


class PlansTest(unittest.TestCase):
    def plans_of(self, bridge):
        """The bridge, the compiled plan and the folded one."""
        plan = compiled(bridge)
        self.assert_form(plan)
        less = folded(plan)
        self.assert_form(less)
        self.assertEqual(folding_faults(plan, less), [])
        return (bridge, plan, less)

    def new_runs(self, plans):
        """A new converter and two new machines."""
        bridge, plan, less = plans
        return [Converter(bridge), Machine(plan), Machine(less)]

    def runs_of(self, plans, received):
        """A converter and two machines that have received some bytes."""
        runs = self.new_runs(plans)
        for run in runs:
            run.take(list(received))
        return runs

    def assert_form(self, plan):
        """The plan is sound, and it consists of what point 260 lists."""
        self.assertIs(type(plan), tuple)
        slots, reading, writing = plan
        self.assertIsNone(flaw(plan))
        for entry in slots:
            if entry[0] == "among":
                self.assertLessEqual(len(entry[1]), 1000)
                self.assertEqual(entry_of(entry[1]), entry)
            else:
                self.assertEqual(entry[0], "bits")
                self.assertEqual(entry[2] & ~entry[1], 0)
                self.assertTrue(0 <= entry[1] <= FULL)
        for step in reading + writing:
            self.assertIs(type(step), tuple)
            self.assertEqual(len(step), STEPS[step[0]])
            if step[0] == "bits":
                self.assertGreater(len(step[1]), 0)
                taken = 0
                for _, low, width, shift in step[1]:
                    self.assertTrue(width >= 1 and low >= 0 and shift >= 0 and low + width <= 32 and shift + width <= 8)
                    bits = (2 ** width - 1) << shift
                    self.assertEqual(taken & bits, 0)
                    taken |= bits
            elif step[0] == "mark":
                self.assertLessEqual(len(codes_of(slots[step[1]])), 256)
            elif step[0] == "table":
                codes = [code for code, _ in step[2]]
                self.assertEqual(codes, sorted(set(codes)))
                self.assertTrue(1 <= len(codes) <= 1000)

    def assert_alike(self, runs, data):
        """All of them do the same in this call."""
        results = [result_of(run, data) for run in runs]
        for result in results[1:]:
            self.assertEqual(result, results[0], data)
        return results[0]

    def check_message(self, bridge, message):
        """Whole, byte by byte, and with each other byte in each place."""
        plans = self.plans_of(bridge)
        runs = self.new_runs(plans)
        for data in [[], message[:2], message[2:], [], [0], [1]]:
            self.assert_alike(runs, data)
        self.assertIs(runs[0].done, True)
        runs = self.new_runs(plans)
        for place, byte in enumerate(message):
            for wrong in [0, 1, 2, 7, 255, byte ^ 1, byte ^ 128]:
                if wrong != byte:
                    self.assert_alike(self.runs_of(plans, message[:place]), [wrong])
            self.assert_alike(runs, [byte])
        self.assertIs(runs[0].done, True)
        self.assert_alike(self.new_runs(plans), message + [0])


class CompiledTest(PlansTest):
    def check_pair(self, source, target, *messages):
        for message in messages:
            self.check_message(bridge_of(source, target), message)

    def test_the_example_of_point_3(self):
        self.check_pair("u8 id; list readings[marked 3] { u16be t; u8 q in 0..3; } check xor;",
                        "literal 0x7E; list readings[u8 0..3] { u8 q in 0..3; u16le t; } u8 id; check sum;",
                        [5, 1, 1, 2, 3, 0, 4], [5, 0, 5], [5, 1, 0, 0, 0, 1, 1, 1, 1, 1, 9, 9, 0, 0, 5])

    def test_layouts_without_bytes(self):
        self.check_pair("", "", [])
        self.check_pair("", "literal 1 2; u8 a default 3; reserved 1; check sum;", [])
        self.check_pair("u8 a; literal 3; check sum;", "", [7, 3, 10])
        self.assertEqual(compiled(Bridge((), ())), ((), (), ()))

    def test_words_and_parts(self):
        self.check_pair("bits u16le { a: 5; signed b: 7; _: 1; c: 3 in 2..4; } i32be d;",
                        "i32le d; bits u32be { _: 3; c: 12; signed b: 7; a: 10; }", [130, 255, 255, 255, 255, 254], [3, 0, 1, 2, 3, 4])
        self.check_pair("u32le a; u16be b;", "u8 b; bits u16le { a: 9; _: 7; }", [255, 1, 0, 0, 0, 5], [0, 0, 0, 0, 0, 0])
        self.check_pair("u16be a; i8 b in -128..-126, 5;", "i8 b in -127, 5..6; bits u16be { a: 16; }", [1, 2, 129], [1, 2, 5])

    def test_numbers_of_elements(self):
        counts = {"3": [3], "u8 0..3": [0, 2, 3], "u16be 0..3": [0, 3], "u32le 1..4": [1, 3], "marked 3": [0, 1, 3]}
        for source, numbers in counts.items():
            for target in counts:
                bridge = bridge_of(f"u8 a[{source}]; u8 z;", f"u8 a[{target}]; u8 z;")
                for number in numbers:
                    head, mark = {"3": ([], []), "marked 3": ([], [1])}.get(source, ([number], []))
                    head = {"u16be 0..3": [0, number], "u32le 1..4": [number, 0, 0, 0]}.get(source, head)
                    message = head + [byte for index in range(number) for byte in mark + [index]]
                    message += [0] if mark else []
                    try:
                        Converter(bridge).take(message + [9])
                    except UnexpectedByte:
                        runs = self.new_runs(self.plans_of(bridge))
                        for byte in message:
                            self.assert_alike(runs, [byte])
                    else:
                        self.check_message(bridge, message + [9])

    def test_choices_and_records(self):
        source = "choice c u16be { 256 a { u8 x; } 258 b { } 3 d { record r { u8 y[marked 2]; } } 770 e { u8 z; } } u8 last;"
        target = "u8 last; choice c u8 { 9 d { record r { u8 y[u8 0..2]; u8 w default 7; } } 1 b { } 8 a { u8 x in 0..9; } }"
        self.check_pair(source, target, [1, 0, 9, 5], [1, 2, 5], [0, 3, 1, 7, 1, 8, 0, 5], [0, 3, 0, 5])
        bridge = bridge_of(source, target)
        for start in [[3], [2], [1, 1], [1, 0, 10]]:
            self.assert_alike(self.new_runs(self.plans_of(bridge)), start)
        source = "list l[u8 0..2] { choice c u8 { 0 a { } 1 b { u8 x; } 2 d { u16be y; } } } u8 last;"
        self.check_pair(source, source, [2, 0, 2, 1, 2, 9], [0, 9], [2, 1, 5, 1, 6, 9])
        self.check_pair(source, "list l[marked 2] { choice c u16le { 257 b { u8 x; } 513 d { u16be y; } 514 a { } } }",
                        [2, 0, 2, 1, 2, 9], [0, 9], [2, 1, 5, 1, 6, 9])
        self.check_pair("choice c u8 { 5 a { u8 x; } }", "choice c u16be { 5 a { u8 x; } 6 b { } }", [5, 1])

    def test_check_bytes(self):
        self.check_pair("check sum; u8 a; check xor; list l[marked 2] { u8 b; check sum; } check sum;",
                        "u8 a; check sum; list l[2] { check xor; u8 b; } check xor;", [0, 5, 5, 1, 6, 17, 1, 7, 42, 0, 84])

    def test_members_that_are_not_matched(self):
        self.check_pair("u8 a[u8 0..2] in 3..4; u8 b; list c[marked 2] { u8 d; } choice e u8 { 1 f { } 2 g { u8 h; } } u8 i;",
                        "u8 k[u8 2..3] default 5; u8 i; i16le j default -2; list m[2] { u8 n default 1; u8 o[marked 1]; } "
                        "bits u8 { signed p: 3 default -1; b: 5; }", [2, 3, 4, 9, 1, 1, 0, 2, 7, 8], [0, 0, 0, 1, 255])

    def test_what_cannot_be_converted_inside_of_elements_and_cases(self):
        self.check_pair("u8 a[marked 3] in 1; u8 z;", "u8 a[marked 3] in 2; u8 z;", [0, 5])
        self.check_pair("list l[u8 0..3] { u8 a in 1; } u8 z;", "list l[u8 0..3] { u8 a in 2; } u8 z;", [0, 5])
        self.check_pair("choice c u8 { 1 a { u8 x in 1; } 2 b { u8 y; } }", "choice c u8 { 1 a { u8 x in 2; } 2 b { u8 y; } }", [2, 5])
        for bridge in [bridge_of("u8 a[marked 3] in 1; u8 z;", "u8 a[marked 3] in 2; u8 z;"),
                       bridge_of("choice c u8 { 1 a { u8 x in 1; } 2 b { u8 y; } }",
                                 "choice c u8 { 1 a { u8 x in 2; } 2 b { u8 y; } }")]:
            for data in [[1], [1, 1]]:
                self.assert_alike(self.new_runs(self.plans_of(bridge)), data)

    def test_long_messages(self):
        inner = "u32be a; u16le s[u8 0..3]; choice c u8 { 1 x { u32le b; } 2 y { u8 b; u8 d; } }"
        other = "choice c u8 { 1 x { u32be b; } 2 y { u8 d; u8 b; } } u16be s[marked 3]; u32le a;"
        bridge = bridge_of(f"list l[marked 20] {{ {inner} }} u32be z; check sum;", f"list l[u8 0..20] {{ {other} }} u32be z;")
        runs = self.new_runs(self.plans_of(bridge))
        for byte in late_message(bridge, profile(bridge)[0]):
            self.assert_alike(runs, [byte])
        self.assertIs(runs[0].done, True)
        cases = " ".join([f"{number} c{number} {{ }}" for number in range(150)])
        bridge = bridge_of(f"list l[marked 30] {{ choice c u16be {{ {cases} }} }}", f"list l[30] {{ choice c u8 {{ {cases} }} }}")
        runs = self.new_runs(self.plans_of(bridge))
        for index in range(30):
            self.assert_alike(runs, [1, 0, 5 * index])
        self.assert_alike(runs, [0])
        self.assertIs(runs[0].done, True)

    def test_random_bridges(self):
        rng = random.Random(265)
        samples = random_conversions(26500, 60, False) + random_conversions(26600, 60, True)
        for source, target, pairs in samples + sized_conversions(26700, 100, 400):
            plans = self.plans_of(Bridge(source, target))
            for message, converted in rng.sample(pairs, min(2, len(pairs))):
                self.check_pieces(rng, plans, message, converted)

    def check_pieces(self, rng, plans, message, converted):
        runs = self.new_runs(plans)
        place = 0
        self.assertEqual(len({run.done for run in runs}), 1)
        while place < len(message) or rng.random() < 0.5:
            piece = message[place:place + rng.choice([0, 1, 1, 2, 5])]
            wrong = piece + [rng.choice([0, 1, rng.randrange(256)])]
            wrong[rng.randrange(len(wrong))] ^= rng.choice([0, 1, 2, 64, 255])
            self.assert_alike(self.runs_of(plans, message[:place]), wrong)
            self.assert_alike(runs, piece)
            place += len(piece)
        self.assertEqual(self.assert_alike(runs, [])[1:], (message, converted, True))


class FoldedTest(PlansTest):
    def assert_folded(self, plan, many_slots, many_reading, many_writing):
        """The folded plan has at most so many parts."""
        found = folded(plan)
        self.assert_form(found)
        self.assertEqual(folding_faults(plan, found), [])
        self.assertEqual(len(found[0]), many_slots)
        self.assertLessEqual(len(found[1]), many_reading)
        self.assertLessEqual(len(found[2]), many_writing)
        return found

    def test_the_example_of_point_267(self):
        slots = (("among", (1, 2, 4)),)
        reading = (("bits", ((0, 0, 8, 0),)),)
        writing = (("mark", 0, 0), ("bits", ((0, 0, 1, 0),)), ("bits", ((0, 1, 2, 0),)))
        found = self.assert_folded((slots, reading, writing), 1, 1, 3)
        self.assertEqual(found[2][0], ("byte", 1))
        self.assertEqual(Machine(found).take([2]), [1, 0, 1])

    def test_the_empty_plan(self):
        self.assertEqual(folded(((), (), ())), ((), (), ()))
        self.assert_folded(((ANY, ANY), (), ()), 0, 0, 0)
        self.assert_folded(((ANY,), (("free",),), (("byte", 1), ("free",), ("check", "sum"))), 0, 1, 3)

    def test_positions_that_cannot_be_reached(self):
        plan = ((ANY, entry_of([5, 6])), (("jump", 2), ("byte", 1), ("byte", 2), ("jump", 6), ("byte", 3), ("byte", 4)),
                (("byte", 9), ("when", 1, 5, 4), ("jump", 5), ("bits", ((0, 0, 8, 0),)), ("byte", 8), ("byte", 7)))
        found = self.assert_folded(plan, 1, 3, 5)
        self.assertEqual(Machine(found).take([2]), [9, 7])
        # Behind a jump to the end.
        self.assert_folded(((ANY,), (("jump", 3), ("when", 0, 1, 3), ("byte", 1)), ()), 0, 1, 0)

    def test_when_steps_that_are_decided(self):
        slots = (entry_of([5]), entry_of([5, 6]))
        for number, sent in [(5, [2]), (6, [1, 2]), (0, [1, 2])]:
            plan = (slots, (), (("when", 0, number, 2), ("byte", 1), ("byte", 2)))
            found = self.assert_folded(plan, 0, 0, 3)
            self.assertEqual(Machine(found).take([]), sent)
            # In reading as well.
            found = self.assert_folded((slots, plan[2], ()), 0, 3, 0)
            self.assertEqual(Machine(found).take(sent), [])
        found = self.assert_folded((slots, (), (("when", 1, 7, 2), ("byte", 1), ("byte", 2))), 0, 0, 2)
        self.assertEqual(found[2], (("byte", 1), ("byte", 2)))
        # What is behind a step that always goes on elsewhere cannot be reached.
        found = self.assert_folded((slots, (), (("when", 0, 5, 3), ("when", 1, 5, 3), ("byte", 1), ("byte", 2))), 0, 0, 2)
        # One that is open stays.
        plan = (slots, (), (("when", 1, 5, 2), ("byte", 1), ("byte", 2)))
        self.assertEqual(self.assert_folded(plan, 1, 0, 3)[2], (("when", 0, 5, 2), ("byte", 1), ("byte", 2)))

    def test_goals_behind_steps_that_are_left_out(self):
        slots = (entry_of([1, 2]), entry_of([7]))
        steps = (("bits", ((0, 0, 8, 0),)), ("when", 0, 1, 4), ("byte", 3), ("when", 1, 8, 5), ("when", 1, 9, 5), ("byte", 4))
        for plan in [(slots, steps, ()), (slots, steps[:1], steps)]:
            found = self.assert_folded(plan, 1, 4, 4)
            for byte in [1, 2]:
                slow, machine = SlowMachine(plan), Machine(found)
                self.assertEqual(machine.take([byte]), slow.take([byte]))
                self.assertEqual(machine.done, slow.done)
        # A goal at the end behind a step that is left out.
        plan = (slots, (("bits", ((0, 0, 8, 0),)), ("when", 0, 1, 3), ("free",), ("when", 1, 8, 4)), ())
        found = self.assert_folded(plan, 1, 3, 0)
        machine = Machine(found)
        machine.take([1])
        self.assertIs(machine.done, True)

    def test_bytes_that_are_determined_at_the_beginning(self):
        slots = (entry_of([5]), entry_of([1, 2, 4]), entry_of([0x105, 0x205]))
        writing = (("bits", ((0, 0, 8, 0),)), ("mark", 0, 4), ("mark", 0, 5), ("mark", 1, 0), ("table", 0, ((5, 77),)),
                   ("table", 1, ((1, 3), (2, 3), (3, 4), (4, 3))), ("bits", ((2, 0, 8, 0),)),
                   ("bits", ((2, 0, 4, 4), (0, 0, 4, 0))))
        found = self.assert_folded((slots, (), writing), 0, 0, 8)
        self.assertEqual(found[2], tuple(("byte", byte) for byte in [5, 1, 0, 1, 77, 3, 5, 0x55]))
        # In reading they stay: the bytes are still compared.
        reading = (("bits", ((0, 0, 8, 0),)), ("mark", 1, 0), ("table", 0, ((5, 77),)))
        found = self.assert_folded((slots, reading, ()), 2, 3, 0)
        self.assertEqual(Machine(found).take([5, 1, 77]), [])
        for data in [[6], [5, 0], [5, 1, 78]]:
            with self.assertRaises(UnexpectedByte):
                Machine(found).take(data)
        # What is open stays.
        writing = (("bits", ((2, 8, 8, 0),)), ("mark", 1, 1), ("table", 1, ((1, 3), (2, 3))), ("table", 1, ((1, 3), (2, 3), (4, 5))))
        self.assert_folded((slots, (), writing), 2, 0, 4)

    def test_slots_that_are_not_named(self):
        slots = (ANY, entry_of([3]), entry_of([1, 2]), ANY)
        plan = (slots, (("table", 2, ((1, 9), (2, 8))),), (("bits", ((1, 0, 8, 0),)), ("bits", ((2, 0, 8, 0),))))
        found = self.assert_folded(plan, 1, 1, 2)
        self.assertEqual(found[0], (entry_of([1, 2]),))
        machine = Machine(found)
        self.assertEqual(machine.take([8]), [3, 2])
        # A slot that only one piece of several names is named.
        plan = ((ANY, ANY, ANY), (), (("bits", ((2, 0, 1, 0), (0, 0, 1, 1))),))
        self.assert_folded(plan, 2, 0, 1)

    def test_large_slots(self):
        pairs = tuple((code * 4000000, 3) for code in range(1000))
        plan = ((ANY,), (("bits", ((0, 24, 8, 0),)),), (("table", 0, pairs), ("when", 0, 77, 3), ("bits", ((0, 0, 1, 0),))))
        self.assert_folded(plan, 1, 1, 3)

    def test_folding_again(self):
        for seed in range(200):
            once = folded(PlanMaker(seed).plan())
            twice = folded(once)
            self.assertEqual(folding_faults(once, twice), [])

    def test_random_plans(self):
        rng = random.Random(266)
        smaller = 0
        for seed in range(3000):
            plan = PlanMaker(seed).plan()
            found = folded(plan)
            self.assertIsNone(flaw(found), plan)
            self.assertEqual(folding_faults(plan, found), [], plan)
            smaller += len(found[1]) + len(found[2]) < len(plan[1]) + len(plan[2])
            slow, machine = SlowMachine(plan), Machine(found)
            for _ in range(rng.randint(1, 6)):
                self.assertIs(machine.done, slow.done, plan)
                data = slow.some_message(rng, rng.choice([0, 1, 1, 2]))
                data += [rng.choice([0, 1, 7])] if rng.random() < 0.2 else []
                try:
                    expected = slow.take(data)
                except Refused as refused:
                    expected = refused.args[0]
                self.assertEqual(result_of(machine, data), (expected, slow.received, slow.sent, slow.done), plan)
        self.assertGreater(smaller, 500)


class ConventionsTest(PlansTest):
    def test_plans_are_tuples_and_nothing_is_kept(self):
        bridge = bridge_of("u8 a[u8 0..3]; u8 b;", "u8 b; u8 a[marked 3];")
        before = copy.deepcopy((bridge.source, bridge.target, bridge.convertible))
        plan = compiled(bridge)
        kept = copy.deepcopy(plan)
        self.assertEqual(compiled(bridge), plan)
        self.assertEqual(folded(plan), folded(plan))
        Machine(plan).take([2, 7])
        self.assertEqual(plan, kept)
        self.assertEqual((bridge.source, bridge.target, bridge.convertible), before)
        hash(plan)
        hash(folded(plan))


if __name__ == "__main__":
    unittest.main()
