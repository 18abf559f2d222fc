"""Tests of bytebridge.machine: points 260 to 264 and 267, and its section of the interface."""

import random
import unittest

from bytebridge.errors import BadPlan, UnexpectedByte
from bytebridge.machine import Machine, flaw
from plan_oracle import FULL, PlanMaker, Refused, SlowMachine, entry_of

ANY = ("bits", 0, 0)
A_BYTE = ("bits", FULL - 255, 0)
EXAMPLE = ((("among", (1, 2, 4)),), (("bits", ((0, 0, 8, 0),)),),
           (("mark", 0, 0), ("bits", ((0, 0, 1, 0),)), ("bits", ((0, 1, 2, 0),))))


def byte_of(slot, low=0):
    """A bits step for eight bits of a slot."""
    return ("bits", ((slot, low, 8, 0),))


class MachineTest(unittest.TestCase):
    def assert_refused(self, machine, data, place):
        before = (machine.received, machine.sent, machine.done)
        with self.assertRaises(UnexpectedByte) as caught:
            machine.take(data)
        self.assertEqual(caught.exception.place, place)
        self.assertEqual((machine.received, machine.sent, machine.done), before)

    def reader(self, slots, *reading):
        """A machine that only reads."""
        return Machine((tuple(slots), reading, ()))

    def bytes_read(self, slots, reading, start=()):
        """All bytes that the next step reads after the bytes of the start."""
        found = []
        for byte in range(256):
            machine = self.reader(slots, *reading)
            machine.take(list(start))
            try:
                machine.take([byte])
                found.append(byte)
            except UnexpectedByte as error:
                self.assertEqual(error.place, len(start))
        return found

    def sent(self, slots, *writing, data=(), reading=()):
        """The bytes that are sent for these bytes."""
        return Machine((tuple(slots), tuple(reading), writing)).take(list(data))


class FlawTest(MachineTest):
    def assert_flaw(self, plan, expected):
        self.assertEqual(flaw(plan), expected)
        if expected is None:
            Machine(plan)
            return
        with self.assertRaises(BadPlan) as caught:
            Machine(plan)
        self.assertEqual((caught.exception.part, caught.exception.place), expected)

    def test_the_example_of_the_interface(self):
        self.assert_flaw((EXAMPLE[0], (("jump", 0),), ()), ("reading", 0))
        self.assert_flaw(EXAMPLE, None)

    def test_bad_steps_of_each_kind_in_either_part(self):
        slots = (A_BYTE, A_BYTE)
        good = (("byte", 1), ("when", 1, 5, 2), ("free",), ("jump", 5), ("check", "sum"))
        bad = [
            ("bits", ((2, 0, 8, 0),)), ("bits", ((0, 0, 4, 0), (2, 0, 4, 4))), ("bits", ((2, 0, 4, 0), (0, 0, 4, 4))),
            ("mark", 2, 0), ("mark", 1000000, 0), ("table", 2, ((0, 0),)), ("when", 2, 0, 6), ("when", 0, 0, 5),
            ("when", 0, 0, 4), ("when", 0, 0, 0), ("when", 0, 0, 7), ("when", 1, 0, 1000000), ("jump", 5), ("jump", 0),
            ("jump", 7), ("jump", 1000000)]
        for step in bad:
            self.assert_flaw((slots, good + (step,), ()), ("reading", 5))
            self.assert_flaw((slots, good, good + (step,)), ("writing", 5))
            self.assert_flaw((slots, good + (step,), good + (step,)), ("reading", 5))

    def test_steps_that_are_good(self):
        slots = (A_BYTE, A_BYTE)
        good = (("byte", 1), ("when", 1, 5, 2), ("free",), ("jump", 5), ("check", "sum"))
        for step in [("bits", ((1, 0, 8, 0),)), ("bits", ((1, 0, 4, 0), (0, 0, 4, 4))), ("mark", 1, 0), ("byte", 0),
                     ("table", 1, ((0, 0),)), ("when", 1, 0, 6), ("jump", 6), ("check", "xor"), ("free",)]:
            self.assert_flaw((slots, good + (step,), ()), None)
            self.assert_flaw((slots, (), good + (step,)), None)
        self.assert_flaw(((), (), ()), None)
        self.assert_flaw((slots, (("jump", 3), ("jump", 2), ("jump", 3)), (("when", 0, 0, 1),)), None)

    def test_the_least_position_and_reading_first(self):
        slots = (A_BYTE,)
        steps = (("free",), ("jump", 1), ("mark", 1, 0))
        self.assert_flaw((slots, steps, ()), ("reading", 1))
        self.assert_flaw((slots, (), steps), ("writing", 1))
        self.assert_flaw((slots, (("free",),) * 8 + (("jump", 8),), steps), ("reading", 8))
        self.assert_flaw((slots, (("free",), ("mark", 1, 0), ("jump", 1)), steps), ("reading", 1))
        # The end is that of the step's own tuple.
        self.assert_flaw((slots, (("free",),) * 8, (("jump", 2),)), ("writing", 0))
        self.assert_flaw(((), (("mark", 0, 0),), ()), ("reading", 0))


class ExampleTest(MachineTest):
    def test_the_example_of_the_interface(self):
        machine = Machine(EXAMPLE)
        self.assertEqual(machine.take([]), [1])
        self.assert_refused(machine, [3], 0)
        self.assertEqual(machine.take([2]), [0, 1])
        self.assertIs(machine.done, True)

    def test_the_example_of_point_267(self):
        for byte, sent in [(1, [1, 1, 0]), (2, [1, 0, 1]), (4, [1, 0, 2])]:
            self.assertEqual(Machine(EXAMPLE).take([byte]), sent)
        for byte in [0, 3, 5, 255]:
            self.assert_refused(Machine(EXAMPLE), [byte], 0)


class ReadingTest(MachineTest):
    def test_bits(self):
        self.assertEqual(self.bytes_read([A_BYTE], [byte_of(0)]), list(range(256)))
        self.assertEqual(self.bytes_read([entry_of([1, 2, 4])], [byte_of(0)]), [1, 2, 4])
        # The other bits are free.
        self.assertEqual(self.bytes_read([entry_of([1, 2])], [("bits", ((0, 0, 2, 6),))]), list(range(64, 192)))
        self.assertEqual(self.bytes_read([entry_of([0x500, 0x700])], [("bits", ((0, 8, 3, 0),))]),
                         [byte for byte in range(256) if byte % 8 in (5, 7)])
        self.assertEqual(self.bytes_read([entry_of([5]), entry_of([9])], [("bits", ((0, 0, 4, 0), (1, 0, 4, 4)))]), [0x95])
        # Two pieces of one slot.
        self.assertEqual(self.bytes_read([entry_of([0x12, 0x31, 0x22])], [("bits", ((0, 0, 4, 4), (0, 4, 4, 0)))]),
                         [0x13, 0x21, 0x22])
        self.assertEqual(self.bytes_read([entry_of([0, 1, 2, 3])], [("bits", ((0, 0, 1, 0), (0, 0, 1, 1), (0, 0, 1, 2)))]),
                         [byte for byte in range(256) if byte % 8 in (0, 7)])

    def test_a_slot_keeps_what_its_bytes_say(self):
        steps = [byte_of(0, 8), byte_of(0)]
        codes = [0x0102, 0x0105, 0x0202, 0x0303]
        self.assertEqual(self.bytes_read([entry_of(codes)], steps), [1, 2, 3])
        self.assertEqual(self.bytes_read([entry_of(codes)], steps, [1]), [2, 5])
        self.assertEqual(self.bytes_read([entry_of(codes)], steps, [2]), [2])
        self.assertEqual(self.bytes_read([A_BYTE], [byte_of(0), byte_of(0)], [77]), [77])
        self.assertEqual(self.bytes_read([ANY], [byte_of(0, 24), byte_of(0, 23), byte_of(0, 1)], [0x81, 0x03]),
                         list(range(256)))
        self.assertEqual(self.bytes_read([ANY], [byte_of(0, 24), byte_of(0, 23)], [0x81]), [2, 3])

    def test_bytes_free_bytes_and_check_bytes(self):
        self.assertEqual(self.bytes_read([], [("byte", 77)]), [77])
        self.assertEqual(self.bytes_read([], [("free",)]), list(range(256)))
        self.assertEqual(self.bytes_read([], [("check", "sum")]), [0])
        self.assertEqual(self.bytes_read([], [("check", "xor")]), [0])
        steps = [("free",), ("byte", 200), ("free",)]
        self.assertEqual(self.bytes_read([], steps + [("check", "sum")], [100, 200, 7]), [51])
        self.assertEqual(self.bytes_read([], steps + [("check", "xor")], [100, 200, 7]), [100 ^ 200 ^ 7])
        # Check bytes count in later ones.
        self.assertEqual(self.bytes_read([], [("free",), ("check", "sum"), ("check", "sum")], [9, 9]), [18])
        self.assertEqual(self.bytes_read([], [("free",), ("check", "xor"), ("check", "xor")], [9, 9]), [0])

    def test_marks(self):
        for codes, number, expected in [([0, 1, 2], 0, [0, 1]), ([1, 2], 0, [1]), ([0], 0, [0]), ([0, 1, 2], 2, [0]),
                                        ([0, 1, 2], 1, [0, 1]), ([0, 2], 1, [1]), ([0, 1], 5, []), ([7], 5, [1]),
                                        ([FULL - 1, FULL], FULL - 1, [0, 1]), ([FULL], FULL, [0])]:
            self.assertEqual(self.bytes_read([entry_of(codes)], [("mark", 0, number)]), expected)
        marks = [("mark", 0, 0), ("mark", 0, 1), ("mark", 0, 2)]
        self.assertEqual(self.bytes_read([entry_of([0, 1, 2])], marks, [1]), [0, 1])
        self.assertEqual(self.bytes_read([entry_of([0, 1, 2])], marks, [1, 1]), [0])
        # After the mark 0 only the number itself is left.
        self.assertEqual(self.bytes_read([A_BYTE], [("mark", 0, 9), byte_of(0)], [0]), [9])
        self.assertEqual(self.bytes_read([A_BYTE], [("mark", 0, 9), byte_of(0)], [1]), list(range(10, 256)))

    def test_tables(self):
        pairs = ((0, 5), (1, 6), (2, 5), (9, 7))
        self.assertEqual(self.bytes_read([entry_of([0, 1, 2])], [("table", 0, pairs)]), [5, 6])
        self.assertEqual(self.bytes_read([entry_of([0, 2, 3])], [("table", 0, pairs)]), [5])
        self.assertEqual(self.bytes_read([entry_of([3])], [("table", 0, pairs)]), [])
        steps = [("table", 0, pairs), ("table", 0, ((0, 1), (2, 2)))]
        self.assertEqual(self.bytes_read([entry_of([0, 1, 2])], steps, [5]), [1, 2])
        self.assertEqual(self.bytes_read([entry_of([0, 1, 2])], steps, [6]), [])
        self.assertEqual(self.bytes_read([ANY], [("table", 0, pairs), byte_of(0)], [5]), [0, 2])

    def test_after_the_end_every_byte_is_unexpected(self):
        self.assertEqual(self.bytes_read([], []), [])
        self.assertEqual(self.bytes_read([], [("free",)], [3]), [])
        self.assertEqual(self.bytes_read([], [("free",), ("jump", 2)], [3]), [])

    def test_when_and_jump_steps(self):
        # A choice of two cases, which goes on behind both of them.
        cases = [("table", 0, ((0, 10), (1, 20))), ("when", 0, 1, 4), ("byte", 30), ("jump", 5), ("byte", 40), ("byte", 50)]
        self.assertEqual(self.bytes_read([entry_of([0, 1])], cases, [10]), [30])
        self.assertEqual(self.bytes_read([entry_of([0, 1])], cases, [20]), [40])
        self.assertEqual(self.bytes_read([entry_of([0, 1])], cases, [10, 30]), [50])
        self.assertEqual(self.bytes_read([entry_of([0, 1])], cases, [20, 40]), [50])

    def test_when_and_jump_steps_at_the_beginning_and_at_the_end(self):
        self.assertEqual(self.bytes_read([], [("jump", 2), ("byte", 1), ("jump", 3), ("byte", 2)]), [2])
        self.assertEqual(self.bytes_read([entry_of([5])], [("when", 0, 5, 2), ("byte", 1), ("byte", 2)]), [2])
        self.assertEqual(self.bytes_read([entry_of([5, 6])], [("when", 0, 5, 2), ("byte", 1), ("byte", 2)]), [1])
        self.assertEqual(self.bytes_read([entry_of([6])], [("when", 0, 5, 2), ("byte", 1), ("byte", 2)]), [1])
        self.assertIs(self.reader([], ("jump", 1)).done, True)
        self.assertIs(self.reader([entry_of([5])], ("when", 0, 5, 2), ("free",)).done, True)
        self.assertIs(self.reader([entry_of([5, 6])], ("when", 0, 5, 2), ("free",)).done, False)
        self.assertIs(self.reader([entry_of([5, 6])], ("when", 0, 5, 1)).done, True)
        machine = self.reader([entry_of([5, 6])], byte_of(0), ("when", 0, 5, 3), ("free",), ("jump", 4))
        machine.take([5])
        self.assertIs(machine.done, True)
        machine = self.reader([entry_of([5, 6])], byte_of(0), ("when", 0, 5, 3), ("free",), ("jump", 4))
        machine.take([6])
        self.assertIs(machine.done, False)
        machine.take([0])
        self.assertIs(machine.done, True)

    def test_a_position_never_comes_back(self):
        # The when step is passed before the byte is read; that the code is 5 then comes too late.
        slots = (entry_of([5, 6]),)
        machine = Machine((slots, (("when", 0, 5, 2), byte_of(0), ("byte", 1)), (("when", 0, 5, 2), byte_of(0), ("byte", 9))))
        self.assertEqual(machine.take([5]), [5, 9])
        self.assertEqual(machine.take([1]), [])
        # In writing, the step is come to when the byte before it is sent.
        writing = (byte_of(1), ("when", 0, 5, 3), ("byte", 8), ("byte", 9))
        machine = Machine((slots + (entry_of([1, 2]),), (byte_of(0), byte_of(1)), writing))
        self.assertEqual(machine.take([5]), [])
        self.assertEqual(machine.take([1]), [1, 9])
        machine = Machine((slots + (entry_of([1, 2]),), (byte_of(1), byte_of(0)), writing))
        self.assertEqual(machine.take([1]), [1, 8, 9])
        self.assertEqual(machine.take([5]), [])
        # Also if both bytes come in one call.
        machine = Machine((slots + (entry_of([1, 2]),), (byte_of(1), byte_of(0)), writing))
        self.assertEqual(machine.take([1, 5]), [1, 8, 9])


class WritingTest(MachineTest):
    def test_bits(self):
        self.assertEqual(self.sent([entry_of([0x1234])], byte_of(0), byte_of(0, 8), byte_of(0, 24)), [0x34, 0x12, 0])
        self.assertEqual(self.sent([entry_of([5]), entry_of([2])], ("bits", ((0, 0, 3, 0), (1, 0, 2, 6)))), [0x85])
        # Determined are the bits in which all codes agree, whatever the others are.
        self.assertEqual(self.sent([entry_of([0x105, 0x205])], byte_of(0), byte_of(0, 8)), [5])
        self.assertEqual(self.sent([entry_of([1, 2, 3])], ("bits", ((0, 2, 6, 2),)), ("bits", ((0, 1, 1, 0),))), [0])
        self.assertEqual(self.sent([("bits", FULL - 1, 6)], ("bits", ((0, 1, 7, 1),)), byte_of(0)), [6])
        self.assertEqual(self.sent([ANY], byte_of(0)), [])
        self.assertEqual(self.sent([entry_of([5]), ANY], ("bits", ((0, 0, 3, 0), (1, 0, 1, 7)))), [])
        self.assertEqual(self.sent([entry_of([FULL])], ("bits", ((0, 31, 1, 7),)), ("bits", ((0, 24, 8, 0),))), [128, 255])

    def test_bytes_free_bytes_and_check_bytes(self):
        self.assertEqual(self.sent([], ("check", "sum"), ("byte", 200), ("free",), ("byte", 100), ("check", "sum"),
                                   ("check", "xor"), ("check", "sum")), [0, 200, 0, 100, 44, 200 ^ 100 ^ 44,
                                                                         (344 + (200 ^ 100 ^ 44)) % 256])
        self.assertEqual(self.sent([], ("check", "xor"), ("byte", 7), ("check", "xor"), ("check", "xor")), [0, 7, 7, 0])
        # Check bytes of what is sent do not depend on what is received.
        self.assertEqual(self.sent([], ("byte", 3), ("check", "sum"), data=[9], reading=[("free",)]), [3, 3])

    def test_marks(self):
        for codes, number, expected in [([0, 1], 0, []), ([1, 2], 0, [1]), ([0], 0, [0]), ([2], 2, [0]), ([1, 2], 2, []),
                                        ([0, 1], 2, []), ([1], 2, []), ([3, 255], 2, [1]), ([FULL], FULL - 1, [1])]:
            self.assertEqual(self.sent([entry_of(codes)], ("mark", 0, number)), expected)

    def test_tables(self):
        pairs = ((0, 5), (1, 6), (2, 5), (9, 7))
        for codes, expected in [([0], [5]), ([0, 2], [5]), ([0, 1], []), ([0, 1, 2], []), ([9], [7]), ([3], []),
                                ([0, 2, 3], []), ([3, 4], []), ([0, 1, 2, 9, 10], [])]:
            self.assertEqual(self.sent([entry_of(codes)], ("table", 0, pairs)), expected)
        self.assertEqual(self.sent([entry_of([0, 1])], ("table", 0, ((0, 0), (1, 0))), ("byte", 1)), [0, 1])
        self.assertEqual(self.sent([ANY], ("table", 0, pairs)), [])

    def test_it_sends_until_a_byte_is_not_determined(self):
        slots = (entry_of([5, 6]), entry_of([7, 8]))
        machine = Machine((slots, (byte_of(0), byte_of(1)), (("byte", 1), byte_of(1), ("byte", 2), byte_of(0), ("byte", 3))))
        self.assertEqual(machine.take([]), [1])
        self.assertEqual(machine.take([5]), [])
        self.assertEqual(machine.take([8]), [8, 2, 5, 3])
        self.assertEqual(machine.sent, [1, 8, 2, 5, 3])

    def test_when_and_jump_steps(self):
        steps = (("when", 0, 5, 3), ("byte", 1), ("jump", 5), ("byte", 2), ("byte", 3), ("byte", 4), ("jump", 7))
        self.assertEqual(self.sent([entry_of([5])], *steps), [2, 3, 4])
        self.assertEqual(self.sent([entry_of([6])], *steps), [1, 4])
        self.assertEqual(self.sent([entry_of([5, 6])], *steps), [1, 4])


class PiecesTest(MachineTest):
    PLAN = ((A_BYTE, A_BYTE), (byte_of(0), ("byte", 7), byte_of(1), ("check", "sum")),
            (("byte", 9), byte_of(0), byte_of(1), ("check", "xor")))

    def test_bytes_in_pieces(self):
        for pieces in [[[1, 7, 2, 10]], [[1], [7], [2], [10]], [[], [1, 7], [], [2, 10], []], [[1, 7, 2], [], [10]]]:
            machine = Machine(self.PLAN)
            self.assertIs(machine.done, False)
            self.assertEqual((machine.received, machine.sent), ([], []))
            found = []
            for piece in pieces:
                found += machine.take(piece)
                self.assertEqual(machine.sent, found)
            self.assertEqual(found, [9, 1, 2, 10])
            self.assertEqual(machine.received, [1, 7, 2, 10])
            self.assertIs(machine.done, True)

    def test_nothing_is_sent_twice(self):
        machine = Machine(self.PLAN)
        self.assertEqual(machine.take([]), [9])
        self.assertEqual(machine.take([]), [])
        self.assertEqual(machine.take([1]), [1])
        self.assertEqual(machine.take([]), [])
        self.assertEqual(machine.take([7, 2]), [2, 10])
        self.assertEqual(machine.take([10]), [])

    def test_going_on_after_a_refused_piece(self):
        machine = Machine(self.PLAN)
        self.assert_refused(machine, [1, 8], 1)
        self.assertEqual(machine.take([3]), [9, 3])
        for data, place in [([8], 1), ([7, 2, 99], 3), ([7, 2, 12, 0], 4), ([0, 7], 1), ([7, 5, 12], 3)]:
            self.assert_refused(machine, data, place)
        self.assertEqual(machine.take([7, 2]), [2, 9 ^ 3 ^ 2])
        self.assertEqual(machine.take([12]), [])
        self.assertIs(machine.done, True)
        self.assert_refused(machine, [0], 4)
        self.assertEqual(machine.take([]), [])

    def test_what_is_passed_and_returned_is_not_kept(self):
        machine = Machine(self.PLAN)
        data = [1]
        machine.take(data).append(55)
        data.append(8)
        data[0] = 77
        machine.received.append(3)
        machine.sent.append(4)
        self.assertEqual(machine.take([7, 2]), [2, 9 ^ 1 ^ 2])
        self.assertEqual(machine.received, [1, 7, 2])
        self.assertEqual(machine.sent, [9, 1, 2, 9 ^ 1 ^ 2])
        self.assertEqual(data, [77, 8])

    def test_machines_of_one_plan_do_not_know_of_one_another(self):
        first, second = Machine(self.PLAN), Machine(self.PLAN)
        first.take([1, 7])
        self.assertEqual((second.received, second.sent), ([], []))
        self.assertEqual(second.take([5, 7, 6]), [9, 5, 6, 9 ^ 5 ^ 6])
        self.assertEqual(first.take([2]), [2, 10])


class LargePlanTest(MachineTest):
    def test_slots_with_all_codes(self):
        # Nothing may go through 2 ** 32 codes.
        pairs = tuple((code * 4000000, code % 2) for code in range(1000))
        reading = (("bits", ((0, 0, 8, 0),)), ("table", 1, pairs), ("bits", ((2, 24, 8, 0),)))
        writing = (("table", 1, ((0, 9),)), ("bits", ((0, 0, 8, 0),)), ("bits", ((2, 31, 1, 0),)))
        slots = (ANY, ANY, ("bits", 255, 7))
        machine = Machine((slots, reading, writing))
        self.assertEqual(machine.take([200]), [])
        self.assertEqual(machine.take([1]), [])
        self.assertIs(Machine((slots, (), (("mark", 2, 6), ("when", 0, 5, 2)))).done, True)
        self.assertEqual(self.sent([("bits", 255, 7)], ("mark", 0, 6), ("mark", 0, 7)), [1])

    def test_many_steps(self):
        many = 20000
        slots = (A_BYTE,) * many
        reading = tuple(("when", place, 300, place + 1) for place in range(many)) + (byte_of(many - 1),)
        writing = tuple(("byte", place % 256) for place in range(many)) + (("check", "sum"), byte_of(many - 1))
        machine = Machine((slots, reading, writing))
        found = machine.take([])
        self.assertEqual(len(found), many + 1)
        self.assertEqual(found[-1], sum(found[:-1]) % 256)
        self.assertEqual(machine.take([5]), [5])
        self.assertIs(machine.done, True)


class RandomTest(MachineTest):
    def test_random_plans(self):
        rng = random.Random(262)
        long_runs = 0
        for seed in range(3000):
            plan = PlanMaker(seed).plan()
            self.assertIsNone(flaw(plan), plan)
            slow, machine = SlowMachine(plan), Machine(plan)
            for _ in range(rng.randint(1, 6)):
                self.assertIs(machine.done, slow.done, plan)
                self.compare(plan, slow, machine, self.piece(rng, slow))
            long_runs += len(machine.received) > 2
        self.assertGreater(long_runs, 500)

    def piece(self, rng, slow):
        """A piece that the machine can take, and sometimes one with another byte."""
        found = slow.some_message(rng, rng.choice([0, 1, 1, 2]))
        return found + [rng.choice([0, 1, 7])] if rng.random() < 0.2 else found

    def compare(self, plan, slow, machine, data):
        try:
            expected = slow.take(data)
        except Refused as refused:
            with self.assertRaises(UnexpectedByte, msg=plan) as caught:
                machine.take(data)
            self.assertEqual(caught.exception.place, refused.args[0], plan)
        else:
            self.assertEqual(machine.take(data), expected, plan)
        self.assertEqual((machine.received, machine.sent, machine.done), (slow.received, slow.sent, slow.done), plan)


if __name__ == "__main__":
    unittest.main()
