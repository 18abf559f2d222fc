"""Tests of bytebridge.messages: points 46, 47 and 60 to 64, and its section of the interface."""

import random
import unittest

from bytebridge.errors import BridgeError, InvalidMember
from bytebridge.messages import check_byte, facts_of, first_invalid, write_message
from oracle import encoded, facts_about, members_of, records_in, whole_domain, wrong_path
from samples import WIDE, array, integer, random_layouts

BITS = ("word", "u8", (("mode", 3, False, None, None), (None, 4, False, None, None), ("ok", 1, False, None, None)))
T = array("u16le", "t", ("counted", "u8", 0, 2))
# The word of point 41.
XYZ = ("word", "u16le", (
    ("x", 5, True, None, None),
    ("y", 3, False, None, None),
    (None, 4, False, None, None),
    ("z", 4, False, None, None),
))
MODE = ("choice", "mode", "u8", ((1, "on", (integer("u8", "since"),)), (2, "off", ())))


def broken(rng, layout, record):
    """The record with some values replaced by others of the same form, which may not be allowed."""
    found = []
    for (_, kind, item), value in zip(members_of(layout), record):
        if kind == "integer":
            value = any_integer(rng, value)
        elif kind == "record":
            value = broken(rng, item[2], value)
        elif kind == "choice":
            items = {name: items for _, name, items in item[3]}
            value = (value[0], broken(rng, items[value[0]], value[1]))
            if rng.random() < 0.1:
                value = ("nothing", (1, 2, ()))
        else:
            parts = [any_integer(rng, part) if kind == "array" else broken(rng, item[3], part) for part in value]
            if parts and rng.random() < 0.1:
                parts = (parts * 4)[:rng.randint(0, 70)]
            value = tuple(parts)
        found.append(value)
    return tuple(found)


def any_integer(rng, value):
    if rng.random() < 0.8:
        return value
    others = [value - 1, value + 1, -value, -1, 0, 3, 4, 255, 256, -129, 65536, 2 ** 32, -2 ** 31 - 1, 10 ** 30]
    return rng.choice(others)


class FirstInvalidTest(unittest.TestCase):
    def assert_path(self, item, value, path):
        self.assertEqual(first_invalid((item,), (value,)), path)

    def test_a_layout_without_members_has_one_record(self):
        self.assertIsNone(first_invalid((), ()))
        self.assertIsNone(first_invalid((("literal", (1,)), ("check", "sum"), ("reserved", 3)), ()))

    def test_integers_of_a_field_without_ranges(self):
        for word, bits in [("u8", 8), ("u16be", 16), ("u16le", 16), ("u32be", 32), ("u32le", 32)]:
            unsigned = integer(word, "a")
            signed = integer(word, "a", True)
            for number in [0, 1, 2 ** bits - 1, 2 ** (bits - 1)]:
                self.assert_path(unsigned, number, None)
            for number in [-1, 2 ** bits, 10 ** 40, -10 ** 40]:
                self.assert_path(unsigned, number, "a")
            for number in [0, -1, 2 ** (bits - 1) - 1, -2 ** (bits - 1)]:
                self.assert_path(signed, number, None)
            for number in [2 ** (bits - 1), -2 ** (bits - 1) - 1, 2 ** bits]:
                self.assert_path(signed, number, "a")

    def test_fields_of_one_bit(self):
        word = ("word", "u8", (("a", 1, False, None, None), ("b", 1, True, None, None), (None, 6, False, None, None)))
        self.assertIsNone(first_invalid((word,), (1, -1)))
        self.assertIsNone(first_invalid((word,), (0, 0)))
        self.assertEqual(first_invalid((word,), (0, 1)), "b")
        self.assertEqual(first_invalid((word,), (-1, -1)), "a")

    def test_integers_of_ranges(self):
        item = integer("u8", "a", False, ((0, 1), (3, 3), (5, 7)))
        allowed = [number for number in range(-3, 300) if first_invalid((item,), (number,)) is None]
        self.assertEqual(allowed, [0, 1, 3, 5, 6, 7])
        item = integer("u8", "a", True, ((-128, -127), (-1, 1), (127, 127)), 1)
        allowed = [number for number in range(-300, 300) if first_invalid((item,), (number,)) is None]
        self.assertEqual(allowed, [-128, -127, -1, 0, 1, 127])

    def test_a_default_is_not_the_only_allowed_integer(self):
        self.assert_path(integer("u8", "a", False, None, 4), 5, None)

    def test_the_number_of_elements(self):
        for count, allowed in [(("exactly", 2), [2]), (("counted", "u8", 1, 3), [1, 2, 3]), (("marked", 2), [0, 1, 2]),
                               (("counted", "u16be", 0, 1), [0, 1]), (("exactly", 60), [60])]:
            for number in list(range(6)) + [59, 60, 61]:
                path = None if number in allowed else "s"
                self.assert_path(array("u8", "s", count), (1,) * number, path)
                self.assert_path(("list", "s", count, (integer("u8", "a"),)), ((1,),) * number, path)

    def test_the_number_of_elements_comes_before_the_elements(self):
        self.assert_path(array("u8", "s", ("exactly", 2)), (256, 1, 1), "s")
        self.assert_path(array("u8", "s", ("exactly", 2)), (1, 256), "s[1]")
        self.assert_path(("list", "s", ("exactly", 1), (integer("u8", "a"),)), ((256,), (1,)), "s")
        self.assert_path(("list", "s", ("exactly", 1), (integer("u8", "a"),)), ((256,),), "s[0].a")

    def test_ranges_hold_for_each_element_of_an_array(self):
        item = array("u8", "s", ("marked", 12), ((0, 3), (5, 5)))
        self.assert_path(item, (0, 3, 5), None)
        self.assert_path(item, (0, 4, 6), "s[1]")
        self.assert_path(item, (0,) * 11 + (4,), "s[11]")
        self.assert_path(array("u16le", "s", ("marked", 2), None, None, True), (-32768, 32768), "s[1]")

    def test_a_choice(self):
        self.assert_path(MODE, ("on", (255,)), None)
        self.assert_path(MODE, ("off", ()), None)
        self.assert_path(MODE, ("on", (256,)), "mode.value.since")
        for record in [(), (1,), (256,), (1, 2, 3), ((1,), ("x", ()))]:
            self.assert_path(MODE, ("On", record), "mode")
            self.assert_path(MODE, ("", record), "mode")

    def test_paths_of_members_inside_of_one_another(self):
        inner = (("record", "r", (MODE, integer("u8", "x"))),)
        layout = (("record", "header", (("list", "l", ("marked", 3), inner),)),)
        good = ((("off", ()), 1),)
        for bad, path in [
            (((("on", (256,)), 1),), "header.l[2].r.mode.value.since"),
            (((("off", ()), 256),), "header.l[2].r.x"),
            (((("of", ()), 256),), "header.l[2].r.mode"),
        ]:
            self.assertEqual(first_invalid(layout, (((good, good, bad),),)), path)

    def test_each_member_with_everything_inside_comes_before_the_next_one(self):
        layout = (T, integer("u8", "a"), MODE, integer("u8", "b"))
        self.assertEqual(first_invalid(layout, ((1, 65536), 256, ("on", (-1,)), 256)), "t[1]")
        self.assertEqual(first_invalid(layout, ((1, 1), 256, ("on", (-1,)), 256)), "a")
        self.assertEqual(first_invalid(layout, ((1, 1), 1, ("on", (-1,)), 256)), "mode.value.since")
        self.assertEqual(first_invalid(layout, ((1, 1), 1, ("on", (1,)), 256)), "b")

    def test_the_parts_of_a_word_are_checked_in_their_order(self):
        self.assertEqual(first_invalid((XYZ,), (16, 8, 16)), "x")
        self.assertEqual(first_invalid((XYZ,), (-16, 8, 16)), "y")
        self.assertEqual(first_invalid((XYZ,), (-16, 7, 16)), "z")
        self.assertIsNone(first_invalid((XYZ,), (15, 0, 15)))

    def test_random_records(self):
        rng = random.Random(63)
        for layout in random_layouts(6300, 150, 300) + random_layouts(6301, 60, 3000, wide=True):
            records = records_in(layout, whole_domain(layout, WIDE))
            for _ in range(20):
                record = broken(rng, layout, rng.choice(records))
                self.assertEqual(first_invalid(layout, record), wrong_path(layout, record), (layout, record))


class WriteTest(unittest.TestCase):
    def assert_written(self, item, value, data):
        self.assertEqual(write_message((item,), (value,)), data)

    def test_the_example_of_point_62(self):
        self.assertEqual(write_message((BITS, T, ("check", "sum")), (5, 1, (258, 3))), [161, 2, 2, 1, 3, 0, 169])

    def test_a_layout_without_items_has_the_empty_message(self):
        self.assertEqual(write_message((), ()), [])
        self.assertEqual(write_message((("record", "r", ()),), ((),)), [])

    def test_words_in_both_byte_orders(self):
        self.assert_written(integer("u8", "a"), 5, [5])
        self.assert_written(integer("u16be", "a"), 258, [1, 2])
        self.assert_written(integer("u16le", "a"), 258, [2, 1])
        self.assert_written(integer("u32be", "a"), 16909060, [1, 2, 3, 4])
        self.assert_written(integer("u32le", "a"), 16909060, [4, 3, 2, 1])
        self.assert_written(integer("u32le", "a", True), -2, [254, 255, 255, 255])
        self.assert_written(integer("u16be", "a", True), -32768, [128, 0])

    def test_the_parts_of_a_word_begin_with_the_most_significant_bit(self):
        # x has the bits 11 to 15, y 8 to 10, z 0 to 3; the first byte contains the free bits and z.
        self.assertEqual(write_message((XYZ,), (-1, 0, 0)), [0, 248])
        self.assertEqual(write_message((XYZ,), (0, 5, 9)), [9, 5])
        self.assertEqual(write_message((XYZ,), (-16, 7, 15)), [15, 135])

    def test_a_part_that_is_spread_over_three_bytes(self):
        parts = ((None, 5, False, None, None), ("x", 20, False, None, None), ("y", 7, True, None, None))
        self.assertEqual(write_message((("word", "u32be", parts),), (0xABCDE, -1)), [5, 94, 111, 127])
        self.assertEqual(write_message((("word", "u32le", parts),), (0xABCDE, -1)), [127, 111, 94, 5])

    def test_counts(self):
        self.assert_written(array("u16le", "s", ("exactly", 2)), (1, 258), [1, 0, 2, 1])
        self.assert_written(array("u8", "s", ("counted", "u8", 0, 3)), (), [0])
        self.assert_written(array("u8", "s", ("counted", "u8", 0, 3)), (9, 8, 7), [3, 9, 8, 7])
        self.assert_written(array("u8", "s", ("counted", "u16be", 0, 3)), (9,), [0, 1, 9])
        self.assert_written(array("u8", "s", ("counted", "u32le", 1, 3)), (9, 8), [2, 0, 0, 0, 9, 8])
        self.assert_written(array("u8", "s", ("marked", 2)), (), [0])
        self.assert_written(array("u8", "s", ("marked", 2)), (9,), [1, 9, 0])
        self.assert_written(array("u8", "s", ("marked", 2)), (9, 8), [1, 9, 1, 8, 0])
        self.assert_written(array("u8", "s", ("marked", 60)), (7,) * 60, [1, 7] * 60 + [0])

    def test_lists(self):
        items = (integer("u8", "a"), ("literal", (126,)), integer("u16be", "b"))
        records = ((1, 258), (2, 3))
        self.assert_written(("list", "l", ("exactly", 2), items), records, [1, 126, 1, 2, 2, 126, 0, 3])
        self.assert_written(("list", "l", ("counted", "u8", 0, 2), items), records, [2, 1, 126, 1, 2, 2, 126, 0, 3])
        self.assert_written(("list", "l", ("marked", 2), items), records, [1, 1, 126, 1, 2, 1, 2, 126, 0, 3, 0])
        self.assert_written(("list", "l", ("marked", 2), items), (), [0])

    def test_choices(self):
        self.assert_written(MODE, ("on", (9,)), [1, 9])
        self.assert_written(MODE, ("off", ()), [2])
        cases = ((258, "a", ()), (4294967295, "b", (("literal", (7,)),)))
        self.assert_written(("choice", "c", "u32le", cases), ("a", ()), [2, 1, 0, 0])
        self.assert_written(("choice", "c", "u32be", cases), ("a", ()), [0, 0, 1, 2])
        self.assert_written(("choice", "c", "u32be", cases), ("b", ()), [255, 255, 255, 255, 7])

    def test_records_literals_and_reserved_bytes(self):
        layout = (("literal", (9, 0)), ("record", "r", (integer("u8", "a"), ("reserved", 3))), ("literal", (255,)))
        self.assertEqual(write_message(layout, ((5,),)), [9, 0, 5, 0, 0, 0, 255])
        self.assertEqual(write_message((("reserved", 60),), ()), [0] * 60)
        self.assertEqual(write_message((("word", "u16be", ((None, 16, False, None, None),)),), ()), [0, 0])

    def test_check_bytes(self):
        for method, bytes_of in [("sum", [0, 0, 7, 7, 14, 200, 228]), ("xor", [0, 0, 7, 7, 0, 200, 200])]:
            check = ("check", method)
            layout = (check, check, ("literal", (7,)), check, check, ("literal", (200,)), check)
            self.assertEqual(write_message(layout, ()), bytes_of)
        self.assertEqual(write_message((("literal", (255, 255, 3)), ("check", "sum")), ()), [255, 255, 3, 1])

    def test_check_bytes_inside_of_lists_cases_and_records(self):
        summed = ("check", "sum")
        layout = (
            ("literal", (10,)),
            ("list", "l", ("marked", 2), (integer("u8", "a"), summed)),
            ("choice", "c", "u8", ((3, "x", (("check", "xor"), summed)),)),
            ("record", "r", (summed,)),
        )
        start = [10, 1, 5, 16, 1, 6, 39, 0, 3]
        crossed = 10 ^ 1 ^ 5 ^ 16 ^ 1 ^ 6 ^ 39 ^ 3
        second = (sum(start) + crossed) % 256
        third = (sum(start) + crossed + second) % 256
        written = write_message(layout, (((5,), (6,)), ("x", ()), ()))
        self.assertEqual(written, start + [crossed, second, third])

    def test_a_value_that_is_not_allowed(self):
        for record, path in [((8, 2, ()), "mode"), ((7, 2, ()), "ok"), ((5, 1, (258, 65536)), "t[1]"),
                             ((5, 1, (1, 2, 65536)), "t")]:
            with self.assertRaises(InvalidMember) as caught:
                write_message((BITS, T, ("check", "sum")), record)
            self.assertEqual(caught.exception.path, path)
            self.assertIsInstance(caught.exception, BridgeError)

    def test_random_records(self):
        rng = random.Random(60)
        for layout in random_layouts(6000, 200, 300) + random_layouts(6001, 80, 3000, wide=True):
            records = records_in(layout, whole_domain(layout, WIDE))
            for record in rng.sample(records, min(20, len(records))):
                self.assertEqual(write_message(layout, record), encoded(layout, record), (layout, record))

    def test_the_bytes_are_a_new_list_each_time(self):
        layout = (("literal", (9,)), ("reserved", 1))
        first = write_message(layout, ())
        first.append(1)
        first[0] = 77
        self.assertEqual(write_message(layout, ()), [9, 0])

    def test_a_long_message(self):
        item = array("u32be", "s", ("exactly", 60))
        layout = (item, array("u16le", "t", ("exactly", 60)), ("reserved", 39), ("check", "xor"))
        record = (tuple(range(60)), tuple(range(60)))
        self.assertEqual(write_message(layout, record), encoded(layout, record))
        self.assertEqual(len(write_message(layout, record)), 400)


class FactsTest(unittest.TestCase):
    def test_the_example_of_point_64(self):
        layout = (MODE, array("u8", "samples", ("marked", 4), None, None, True))
        self.assertEqual(facts_of(layout, (("on", (3,)), (-1,))), [
            ("mode.case", "on"), ("mode.value.since", 3), ("samples.length", 1), ("samples[0]", -1)])

    def test_a_layout_without_members_has_no_facts(self):
        self.assertEqual(facts_of((), ()), [])
        self.assertEqual(facts_of((("record", "r", ()), ("literal", (1,))), ((),)), [])

    def test_facts_of_each_kind_of_member(self):
        layout = (
            XYZ,
            ("list", "l", ("marked", 2), (integer("u8", "a"), ("list", "m", ("exactly", 1), (integer("u8", "b"),)))),
            ("record", "header", (integer("u8", "kind"), ("record", "h", (MODE,)))),
            array("u8", "e", ("counted", "u8", 0, 3)),
        )
        record = (-1, 2, 3, ((4, ((5,),)), (6, ((7,),))), (8, (("off", ()),)), ())
        self.assertEqual(facts_of(layout, record), [
            ("x", -1), ("y", 2), ("z", 3),
            ("l.length", 2),
            ("l[0].a", 4), ("l[0].m.length", 1), ("l[0].m[0].b", 5),
            ("l[1].a", 6), ("l[1].m.length", 1), ("l[1].m[0].b", 7),
            ("header.kind", 8), ("header.h.mode.case", "off"),
            ("e.length", 0),
        ])

    def test_equal_elements_have_facts_of_their_own(self):
        self.assertEqual(facts_of((array("u8", "s", ("exactly", 11)),), ((1,) * 11,)),
                         [("s.length", 11)] + [(f"s[{index}]", 1) for index in range(11)])

    def test_random_records(self):
        rng = random.Random(64)
        for layout in random_layouts(6400, 200, 300) + random_layouts(6401, 80, 3000, wide=True):
            records = records_in(layout, whole_domain(layout, WIDE))
            for record in rng.sample(records, min(20, len(records))):
                self.assertEqual(facts_of(layout, record), facts_about(layout, record), (layout, record))

    def test_the_facts_are_a_new_list_each_time(self):
        layout = (integer("u8", "a"),)
        facts_of(layout, (1,)).append(("b", 2))
        self.assertEqual(facts_of(layout, (1,)), [("a", 1)])


class CheckByteTest(unittest.TestCase):
    def test_without_bytes_before_it_is_0(self):
        self.assertEqual(check_byte("sum", []), 0)
        self.assertEqual(check_byte("xor", []), 0)

    def test_both_methods(self):
        self.assertEqual(check_byte("xor", [5, 1, 1, 2, 3, 0]), 4)
        self.assertEqual(check_byte("sum", [5, 1, 1, 2, 3, 0]), 12)
        self.assertEqual(check_byte("sum", [255, 1]), 0)
        self.assertEqual(check_byte("sum", [255] * 400), 112)
        self.assertEqual(check_byte("xor", [255] * 400), 0)
        self.assertEqual(check_byte("xor", [255] * 399 + [85]), 170)

    def test_the_bytes_are_not_changed(self):
        data = [1, 2, 3]
        check_byte("sum", data)
        check_byte("xor", data)
        self.assertEqual(data, [1, 2, 3])


class InterfaceExampleTest(unittest.TestCase):
    def test_the_examples_of_the_interface(self):
        self.assertEqual(write_message((BITS, T, ("check", "sum")), (5, 1, (258, 3))), [161, 2, 2, 1, 3, 0, 169])
        self.assertEqual(first_invalid((BITS, T), (5, 1, (258, 65536))), "t[1]")
        self.assertEqual(first_invalid((BITS, T), (8, 2, ())), "mode")
        self.assertEqual(check_byte("xor", [5, 1, 1, 2, 3, 0]), 4)


if __name__ == "__main__":
    unittest.main()
