"""Tests of bytebridge.delays: points 3, 164 and 200 to 209, and its section of the interface."""

import copy
import random
import unittest

from bridge_samples import random_conversions, sent_table
from bytebridge.converting import arrivals
from bytebridge.delays import dry_at, late_message, profile, start_delay
from bytebridge.errors import UnexpectedByte, UnexpectedEnd
from bytebridge.linking import Bridge
from bytebridge.messages import write_message
from bytebridge.source import read_layout
from delay_oracle import all_arrivals, slow_dry_at, slow_profile, slow_start_delay
from delay_samples import sized_conversions

STATION = "u8 id; list readings[marked 3] { u16be t; u8 q in 0..3; } check xor;"
DISPLAY = "literal 0x7E; list readings[u8 0..3] { u8 q in 0..3; u16le t; } u8 id; check sum;"


def bridge_of(source, target):
    return Bridge(read_layout(source), read_layout(target))


class DelaysTest(unittest.TestCase):
    def assert_profile(self, source, target, points):
        """The bridge has this profile, and late messages for all of its points."""
        bridge = bridge_of(source, target)
        self.assertEqual(profile(bridge), points)
        self.assert_late(bridge, points)
        return bridge

    def assert_late(self, bridge, points):
        for point in points:
            message = late_message(bridge, point)
            self.assertIs(type(message), list)
            self.assertEqual(arrivals(bridge, message)[point[1]], point[0])


class ExampleTest(DelaysTest):
    def test_the_example_of_point_3(self):
        bridge = self.assert_profile(STATION, DISPLAY, [(10, 1), (13, 8)])
        self.assertEqual(start_delay(bridge), 9)
        self.assertEqual(start_delay(bridge, input_time=3, output_time=1), 31)

    def test_the_examples_of_point_209(self):
        bridge = self.assert_profile("u16be a; u8 b; u32be c;", "u32be c; u8 b; u16be a;", [(4, 0), (7, 3)])
        for a, c, delay in [(1, 1, 4), (3, 1, 18), (1, 3, 4)]:
            self.assertEqual(start_delay(bridge, input_time=a, output_time=c), delay)
        bridge = self.assert_profile("u8 l[marked 3];", "u16be l[marked 3];", [(1, 0), (5, 6), (6, 8)])
        self.assertEqual(start_delay(bridge, input_time=2, output_time=1), 4)
        bridge = self.assert_profile("u16le x;", "u8 x;", [(1, 0)])
        self.assertEqual(start_delay(bridge, input_time=7, output_time=2), 7)

    def test_the_examples_of_the_interface(self):
        bridge = bridge_of("u8 l[marked 3];", "u16be l[marked 3];")
        self.assertEqual(start_delay(bridge, input_time=2), 4)
        self.assertEqual(dry_at(bridge, [1, 7, 1, 7, 1, 7, 0], delay=3, input_time=2), 6)
        self.assertIsNone(dry_at(bridge, [1, 7, 1, 7, 1, 7, 0], delay=4, input_time=2))
        self.assertEqual(profile(bridge_of("u16be x;", "u8 x in 9;")), [])


class ProfileTest(DelaysTest):
    def test_bridges_with_one_conversion_only(self):
        for source, target in [("", ""), ("", "literal 1 2;"), ("literal 1;", ""), ("u8 x;", ""), ("u8 x;", "u8 y default 3;"),
                               ("u16be x;", "u8 x in 9;"), ("u8 x in 9;", "u32le x;"), ("u8 a[4] in 1;", "u8 a[marked 9];"),
                               ("u8 a[marked 9];", "u8 a[3] in 1;"),
                               ("u8 a[u8 0..9] in 2;", "u8 a[marked 9] in 1;"),
                               ("choice c u8 { 1 a { u8 x in 1; } 2 b { } }", "choice c u8 { 3 a { u8 x; } 4 d { } }")]:
            bridge = self.assert_profile(source, target, [])
            self.assertEqual(start_delay(bridge), 0)
            self.assertEqual(start_delay(bridge, input_time=1000, output_time=1), 0)

    def test_words_in_both_byte_orders(self):
        for source, target, points in [
            ("u16be x;", "u16be x;", [(1, 0), (2, 1)]), ("u16be x;", "u16le x;", [(2, 0)]),
            ("u16le x;", "u16be x;", [(2, 0)]), ("u16le x;", "u16le x;", [(1, 0), (2, 1)]),
            ("u32be x;", "u32be x;", [(1, 0), (4, 3)]), ("u32le x;", "u32be x;", [(4, 0)]),
            ("i32le x;", "i32le x;", [(1, 0), (4, 3)]), ("i16be x;", "i16le x;", [(2, 0)]),
            # The upper bytes are 0 in every conversion.
            ("u8 x;", "u32be x;", [(1, 3)]), ("u8 x;", "u32le x;", [(1, 0)]), ("u16le x;", "u32be x;", [(2, 2)]),
            # What the target allows leaves one value of the upper bytes.
            ("u32be x;", "u8 x;", [(4, 0)]), ("u32le x;", "u16le x;", [(1, 0), (2, 1)]),
        ]:
            self.assert_profile(source, target, points)

    def test_parts_of_words(self):
        source = "bits u16be { a: 4; b: 8; c: 4; }"
        self.assert_profile(source, "bits u8 { a: 4; c: 4; }", [(2, 0)])
        self.assert_profile(source, "bits u8 { a: 4; _: 4; } bits u8 { c: 4; _: 4; }", [(1, 0), (2, 1)])
        self.assert_profile(source, "bits u16le { a: 4; b: 8; c: 4; }", [(2, 0)])
        self.assert_profile("bits u8 { a: 1; b: 7; } u8 c;", "bits u8 { c: 1; a: 7; }", [(2, 0)])
        self.assert_profile("bits u16le { a: 4; b: 8; c: 4; }", "bits u16be { c: 4; b: 8; a: 4; }", [(2, 0)])

    def test_integers_that_are_known_before_their_last_bit(self):
        # The first byte stores the two upper bits of the integer, or the three upper ones, or the five lower ones.
        self.assert_profile("bits u16be { _: 6; x: 8 in 4..7; _: 2; }", "u8 x;", [(2, 0)])
        self.assert_profile("bits u16be { _: 6; x: 8 in 3, 64; _: 2; }", "u8 x;", [(1, 0)])
        self.assert_profile("bits u16be { _: 5; x: 8 in 31, 96; _: 3; }", "u8 x;", [(1, 0)])
        self.assert_profile("bits u16le { _: 5; x: 8 in 31, 96; _: 3; }", "u8 x;", [(1, 0)])
        self.assert_profile("bits u16le { _: 5; x: 8 in 24, 96, 97; _: 3; }", "u8 x;", [(1, 0)])
        self.assert_profile("bits u16le { _: 5; x: 8 in 24, 56, 97; _: 3; }", "u8 x;", [(2, 0)])
        # The values 96 and 97 need both bytes, 31 needs the first one only.
        bridge = self.assert_profile("bits u16be { _: 5; x: 8 in 31, 96..97; _: 3; } u8 y;", "u8 x; u8 y;", [(2, 0), (3, 1)])
        self.assertEqual(arrivals(bridge, write_message(bridge.source, (31, 0))), [1, 3])
        self.assertEqual(late_message(bridge, (2, 0))[0], 3)

    def test_the_order_of_the_members(self):
        self.assert_profile("u8 a; u8 b; u8 c;", "u8 c; u8 b; u8 a;", [(3, 0)])
        self.assert_profile("u8 a; u8 b; u8 c;", "u8 b; u8 a; u8 c;", [(2, 0), (3, 2)])
        self.assert_profile("u8 a; literal 1 2 3; u8 b;", "u8 a; u8 b;", [(1, 0), (5, 1)])
        self.assert_profile("reserved 5; u8 a; check sum; u8 b;", "check xor; u8 a; u8 b; literal 3;", [(6, 1), (8, 2)])
        self.assert_profile("u8 a;", "reserved 60; literal 1; u8 a; check sum;", [(1, 61)])

    def test_arrays_with_all_counts_on_either_side(self):
        for source, target, points in [
            ("[3]", "[3]", [(1, 0), (3, 2)]),
            ("[3]", "[u8 0..5]", [(1, 1), (3, 3)]),
            ("[3]", "[marked 5]", [(1, 1), (3, 5)]),
            ("[u8 0..3]", "[3]", [(2, 0), (4, 2)]),
            ("[u8 0..3]", "[u8 0..3]", [(1, 0), (4, 3)]),
            ("[u16le 0..3]", "[u16be 0..3]", [(1, 1), (3, 2), (5, 4)]),
            ("[u16be 0..3]", "[u16le 0..3]", [(2, 0), (5, 4)]),
            ("[u8 0..3]", "[marked 3]", [(1, 0), (2, 1), (4, 5)]),
            ("[u32be 0..3]", "[marked 3]", [(4, 0), (5, 1), (7, 5)]),
            ("[marked 3]", "[3]", [(2, 0), (6, 2)]),
            ("[marked 3]", "[u8 0..3]", [(5, 0), (6, 3)]),
            ("[marked 3]", "[u8 0..2]", [(3, 0), (4, 2)]),
            ("[marked 3]", "[u8 2..3]", [(5, 0), (6, 3)]),
            ("[marked 3]", "[marked 3]", [(1, 0), (6, 5)]),
            ("[marked 3]", "[marked 2]", [(1, 0), (4, 3)]),
            ("[u8 2..3]", "[marked 3]", [(2, 1), (4, 5)]),
            ("[u8 2..3]", "[marked 2]", [(2, 1), (3, 3)]),
        ]:
            self.assert_profile(f"u8 a{source};", f"u8 a{target};", points)

    def test_lists_of_elements_of_different_sizes(self):
        bridge = bridge_of("list l[marked 2] { u8 s[marked 1]; }", "list l[u8 0..2] { u8 s[marked 1]; }")
        # Two elements, with an array each: the second mark is the fifth byte.
        self.assertEqual(profile(bridge)[0], (5, 0))
        self.assert_late(bridge, profile(bridge))

    def test_choices(self):
        source = "choice c u8 { 1 a { u8 x; } 2 b { u32be y; u8 z; } 3 d { } } u8 last;"
        self.assert_profile(source, source, [(1, 0), (7, 6)])
        target = "choice c u16le { 513 b { u8 z; u32be y; } 257 a { u16be x; } 258 d { } } u8 last;"
        self.assert_profile(source, target, [(1, 0), (6, 2), (7, 7)])
        # The target has no case b.
        target = "u8 last; choice c u16le { 257 a { u16be x; } 258 d { } }"
        self.assert_profile(source, target, [(3, 0)])
        # The cases 256 and 258 agree in the first byte of the source, and in the second one of the target.
        self.assert_profile("choice c u16be { 256 a { } 258 b { } }", "choice c u16be { 770 a { } 769 b { } }", [(2, 1)])
        self.assert_profile("choice c u16be { 256 a { } 514 b { } }", "choice c u16be { 770 a { } 769 b { } }", [(1, 1)])

    def test_records_and_check_bytes(self):
        source = "record r { u8 a; check sum; record q { u8 b; check xor; } } check sum; u8 c;"
        target = "u8 c; check sum; record r { check sum; record q { check sum; u8 b; } u8 a; }"
        self.assert_profile(source, target, [(6, 0)])
        self.assert_profile(source, "record r { u8 a; record q { check sum; u8 b; } } u8 c;", [(1, 0), (6, 3)])
        self.assert_profile("u8 a; check sum;", "check sum; u8 a; check xor;", [(1, 1)])

    def test_members_of_the_source_that_are_not_matched(self):
        self.assert_profile("u8 s[u8 0..5]; u8 a;", "u8 a;", [(7, 0)])
        self.assert_profile("u8 s[marked 5]; u8 a;", "u8 a;", [(12, 0)])
        self.assert_profile("u16be s[4]; u8 a;", "u8 a;", [(9, 0)])
        self.assert_profile("list s[marked 2] { u8 t[marked 2]; } u8 a;", "u8 a;", [(14, 0)])
        self.assert_profile("choice s u16be { 1 x { } 2 y { u8 t[4]; } 3 z { u8 t; } } u8 a;", "u8 a;", [(7, 0)])
        self.assert_profile("record s { u8 t[u8 0..3]; literal 1; } u8 a;", "u8 a;", [(6, 0)])
        self.assert_profile("u8 a; u8 s[marked 5];", "u8 a;", [(1, 0)])
        self.assert_profile("list l[2] { u8 s[u8 0..5]; u8 a; }", "list l[2] { u8 a; }", [(7, 0), (14, 1)])

    def test_members_of_the_target_that_are_not_matched(self):
        self.assert_profile("u8 a;", "u8 s[u8 2..5] default 1; u8 a;", [(1, 3)])
        self.assert_profile("u8 a;", "u8 s[marked 5]; u8 a;", [(1, 1)])
        self.assert_profile("u8 a;", "list s[u16be 2..3] { u8 x default 1; u8 y[3] default 2; } u8 a;", [(1, 10)])
        self.assert_profile("u8 a;", "record s { u16be x default 1; u8 y[marked 3]; check sum; } u8 a; u8 z default 1;", [(1, 4)])
        self.assert_profile("list l[2] { u8 a; }", "list l[2] { u8 s[marked 5]; u8 a; }", [(1, 1), (2, 3)])

    def test_words_of_the_language_as_names(self):
        source = "u16be u16be; u8 sum[u8 0..1]; check sum; reserved 2; u8 z;"
        self.assert_profile(source, "u8 z;", [(8, 0)])
        self.assert_profile("u8 z;", "u16be u16be default 1; record sum { } check sum; u8 z;", [(1, 3)])
        self.assert_profile("u16be u16be; u16le u8; u8 z;", "u8 u8; u16be u16be; u8 z;", [(3, 0), (5, 3)])

    def test_sizes_that_count_on_both_sides(self):
        # The array delays x on both sides: the longest one counts if bytes are sent more quickly than received.
        bridge = self.assert_profile("u8 s[u8 0..5]; u8 x; u8 y;", "u8 s[u8 0..5]; u8 y; u8 x;", [(1, 0), (3, 1), (8, 6)])
        self.assertEqual(start_delay(bridge), 2)
        self.assertEqual(start_delay(bridge, input_time=2), 10)
        self.assertEqual(start_delay(bridge, output_time=2), 1)
        # Here it counts in the source only, and there in the target only.
        self.assert_profile("u8 s[u8 0..5]; u8 x;", "u8 x; u8 s[u8 0..5];", [(7, 0)])
        self.assert_profile("u8 x; u8 s[u8 0..5];", "u8 s[u8 0..5]; u8 x;", [(2, 0), (7, 5)])

    def test_messages_that_cannot_be_gone_through(self):
        inner = "u32be a; u16le s[u8 0..3]; choice c u8 { 1 x { u32le b; } 2 y { u8 b; u8 d; } }"
        other = "choice c u8 { 1 x { u32be b; } 2 y { u8 d; u8 b; } } u16be s[marked 3]; u32le a;"
        source = f"list l[marked 20] {{ {inner} }} u32be z; check sum;"
        target = f"u32be z; list l[u8 0..20] {{ {other} }}"
        # An element has from 8 to 16 bytes and a mark, and from 8 to 16 bytes in the target.
        bridge = bridge_of(source, target)
        self.assertEqual(profile(bridge), [(20 * 17 + 2, 0), (20 * 17 + 5, 3)])
        self.assert_late(bridge, profile(bridge))
        target = f"list l[u8 0..20] {{ {other} }} u32be z;"
        bridge = bridge_of(source, target)
        found = profile(bridge)
        # The last mark is the one behind 19 elements and before the last one.
        self.assertEqual(found[0], (19 * 17 + 1, 0))
        self.assert_late(bridge, found)
        self.assert_bounds(bridge, found)

    def assert_bounds(self, bridge, points):
        """No message is later than the profile allows, and each point is on the way of some message."""
        rng = random.Random(201)
        for _ in range(5):
            a, c = rng.randint(1, 9), rng.randint(1, 9)
            delay = start_delay(bridge, input_time=a, output_time=c)
            for point in points:
                message = late_message(bridge, point)
                self.assertIsNone(dry_at(bridge, message, delay=delay, input_time=a, output_time=c))

    def test_many_members_of_many_sizes(self):
        many = 60
        source = " ".join([f"u8 a{index}[u8 0..{1 + index % 5}];" for index in range(many)])
        target = " ".join([f"u8 a{index}[u8 0..{1 + index % 5}];" for index in range(many)][::-1])
        # The first array of the target is the last one of the source; all arrays before it are as long as possible.
        size = sum([2 + index % 5 for index in range(many)])
        bridge = bridge_of(source, target)
        found = profile(bridge)
        self.assertEqual(found[0], (size - (1 + (many - 1) % 5), 0))
        self.assertEqual(found[-1], (size, 1 + (many - 1) % 5))
        self.assert_late(bridge, found)


class DryTest(DelaysTest):
    def test_delays_from_both_sides(self):
        for source, target, message in [(STATION, DISPLAY, [5, 1, 1, 2, 3, 0, 4]), ("u16be x;", "u8 x; u8 y default 3;", [0, 5])]:
            bridge = bridge_of(source, target)
            found = arrivals(bridge, message)
            for a in [1, 2, 7]:
                for c in [1, 3, 5]:
                    for delay in range(30):
                        self.assertEqual(dry_at(bridge, message, delay=delay, input_time=a, output_time=c),
                                         slow_dry_at(found, delay, a, c))

    def test_the_times_are_1_if_they_are_left_out(self):
        bridge = bridge_of(STATION, DISPLAY)
        message = [5, 1, 1, 2, 3, 0, 4]
        self.assertEqual(arrivals(bridge, message), [0, 6, 6, 6, 6, 6, 6])
        self.assertEqual(dry_at(bridge, message, delay=0), 1)
        self.assertEqual(dry_at(bridge, message, delay=4), 1)
        self.assertIsNone(dry_at(bridge, message, delay=5))
        self.assertEqual(dry_at(bridge, message, delay=5, input_time=2), 1)
        self.assertEqual(dry_at(bridge, message, delay=0, output_time=5), 1)
        self.assertIsNone(dry_at(bridge, message, delay=1, output_time=5))
        self.assertEqual(start_delay(bridge, output_time=10), 0)
        self.assertEqual(start_delay(bridge, output_time=9), 1)
        self.assertEqual(start_delay(bridge, input_time=1000, output_time=1), 12992)
        self.assertIsNone(dry_at(bridge, message, delay=1000000, input_time=1000, output_time=1000))

    def test_messages_that_are_not_convertible(self):
        bridge = bridge_of("u8 kind in 1..9; u16le value; check sum;", "u16be value; u8 kind in 1..5; u8 version default 2;")
        for message, place in [([7, 0, 0, 7], 0), ([2, 44, 1, 48], 3), ([2, 44, 1, 47, 0], 4), ([0], 0), ([2, 44, 1, 48, 9], 3)]:
            for delay in [0, 1000]:
                with self.assertRaises(UnexpectedByte) as caught:
                    dry_at(bridge, message, delay=delay)
                self.assertEqual(caught.exception.place, place)
        for message in [[], [2], [2, 44, 1]]:
            with self.assertRaises(UnexpectedEnd):
                dry_at(bridge, message, delay=0)
        self.assertEqual(dry_at(bridge, [2, 44, 1, 47], delay=2), 0)
        self.assertIsNone(dry_at(bridge, [2, 44, 1, 47], delay=3))

    def test_conversions_of_no_bytes(self):
        self.assertIsNone(dry_at(Bridge((), ()), [], delay=0))
        self.assertIsNone(dry_at(bridge_of("u8 a;", ""), [7], delay=0, input_time=1000))


class ConventionsTest(DelaysTest):
    def test_arguments_are_not_changed_and_lists_are_new(self):
        bridge = bridge_of(STATION, DISPLAY)
        before = copy.deepcopy((bridge.source, bridge.target, bridge.convertible))
        message = [5, 1, 1, 2, 3, 0, 4]
        dry_at(bridge, message, delay=0)
        self.assertEqual(message, [5, 1, 1, 2, 3, 0, 4])
        profile(bridge).append((0, 0))
        profile(bridge)[0] = (1, 1)
        self.assertEqual(profile(bridge), [(10, 1), (13, 8)])
        self.assertTrue(all(type(point) is tuple for point in profile(bridge)))
        late = late_message(bridge, (10, 1))
        kept = list(late)
        late.append(99)
        self.assertEqual(late_message(bridge, (10, 1)), kept)
        self.assertEqual((bridge.source, bridge.target, bridge.convertible), before)


class RandomTest(DelaysTest):
    def check(self, rng, source, target, pairs):
        """Compare everything with the slow second version."""
        bridge = Bridge(source, target)
        every = all_arrivals(pairs, sent_table(pairs))
        expected = slow_profile(every)
        self.assertEqual(profile(bridge), expected, (source, target))
        self.assertEqual(expected == [], len({tuple(converted) for _, converted in pairs}) == 1)
        for _ in range(3):
            a, c = rng.choice([1, 1, 2, 3, 7, 40]), rng.choice([1, 1, 2, 3, 7, 40])
            delay = slow_start_delay(every, a, c)
            self.assertEqual(start_delay(bridge, input_time=a, output_time=c), delay, (source, target, a, c))
            message, found = rng.choice(every)
            for wait in [0, max(0, delay - 1), delay, rng.randint(0, 60)]:
                self.assertEqual(dry_at(bridge, message, delay=wait, input_time=a, output_time=c),
                                 slow_dry_at(found, wait, a, c))
        numbers = {tuple(message): found for message, found in every}
        for point in expected:
            message = late_message(bridge, point)
            self.assertEqual(numbers[tuple(message)][point[1]], point[0], (source, target, point))
        return len(expected)

    def test_small_layouts(self):
        rng = random.Random(200)
        lengths = [self.check(rng, *sample) for sample in random_conversions(20000, 120, False)]
        lengths += [self.check(rng, *sample) for sample in sized_conversions(20500, 120, 400)]
        for length in [0, 1, 2, 3]:
            self.assertIn(length, lengths)


if __name__ == "__main__":
    unittest.main()
