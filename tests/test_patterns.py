"""Tests of bytebridge.patterns: points 80 to 85, and its section of the interface."""

import itertools
import random
import unittest

from bytebridge.patterns import belongs, how_many, only, single, whole, with_member
from oracle import integers_of, many_in, pattern_of, random_domain, records_in, set_form, whole_domain
from samples import WIDE, array, integer, random_layouts

A = integer("u8", "a", False, ((1, 3),))
S = array("u8", "s", ("counted", "u8", 0, 2), ((7, 7),))
R = ("list", "r", ("marked", 2), (integer("u8", "t"),))
C = ("choice", "c", "u8", ((1, "on", (integer("u8", "v", False, ((3, 3),)),)), (2, "off", ())))


def field(width, signed, ranges=None):
    """A layout of one integer, with free bits before it if its width is not that of a word."""
    word, bits = [(word, bits) for word, bits in [("u8", 8), ("u16be", 16), ("u32le", 32)] if bits >= width][0]
    part = ("a", width, signed, ranges, None)
    if bits == width:
        return (("word", word, (part,)),)
    return (("word", word, ((None, bits - width, False, None, None), part)),)


def domains(seed, many, wide):
    """Random layouts, each with the domain of a random independent set of its records."""
    rng = random.Random(seed)
    found = []
    for layout in random_layouts(seed, many, 10 ** 6 if wide else 300, wide=wide):
        all_records = whole_domain(layout, WIDE)
        for _ in range(6):
            domain = random_domain(rng, all_records, layout)
            if many_in(layout, domain) <= 200:
                found.append((layout, domain))
    return found


class IntegerSetTest(unittest.TestCase):
    def assert_whole(self, width, signed, ranges, entry):
        self.assertEqual(whole(field(width, signed, ranges)), (entry,))

    def test_the_examples_of_point_81(self):
        self.assert_whole(8, False, None, ("bits", 0, 0))
        self.assert_whole(8, False, ((0, 3),), ("bits", 252, 0))
        self.assert_whole(8, False, ((1, 3),), ("among", (1, 2, 3)))
        self.assert_whole(8, False, ((5, 5),), ("bits", 255, 5))

    def test_all_integers_of_a_field_of_any_width(self):
        for width in range(1, 33):
            self.assert_whole(width, False, None, ("bits", 0, 0))
            self.assert_whole(width, True, None, ("bits", 0, 0))
        self.assert_whole(8, False, ((0, 255),), ("bits", 0, 0))
        self.assert_whole(8, True, ((-128, 127),), ("bits", 0, 0))
        self.assert_whole(1, True, ((-1, 0),), ("bits", 0, 0))

    def test_sets_by_bits(self):
        self.assert_whole(8, False, ((0, 0), (2, 2)), ("bits", 253, 0))
        self.assert_whole(8, False, ((5, 5), (7, 7), (13, 13), (15, 15)), ("bits", 245, 5))
        self.assert_whole(8, False, ((128, 255),), ("bits", 128, 128))
        self.assert_whole(3, False, ((6, 7),), ("bits", 6, 6))
        self.assert_whole(8, False, ((0, 0), (255, 255)), ("among", (0, 255)))

    def test_sets_at_both_sides_of_0_in_a_signed_field(self):
        self.assert_whole(8, True, ((-1, 0),), ("among", (-1, 0)))
        self.assert_whole(8, True, ((-2, -1),), ("bits", 254, 254))
        self.assert_whole(8, True, ((-128, -1),), ("bits", 128, 128))
        self.assert_whole(8, True, ((-128, -128), (0, 0)), ("bits", 127, 0))
        self.assert_whole(8, True, ((-127, -127), (1, 1)), ("bits", 127, 1))
        self.assert_whole(4, True, ((-8, -5), (0, 3)), ("bits", 4, 0))
        self.assert_whole(4, True, ((-1, 1),), ("among", (-1, 0, 1)))
        self.assert_whole(2, True, ((-2, -2), (0, 1)), ("among", (-2, 0, 1)))
        self.assert_whole(1, True, ((-1, -1),), ("bits", 1, 1))

    def test_every_set_of_a_field_of_three_bits(self):
        for signed in [False, True]:
            numbers = integers_of((3, signed, None, None), ())
            for many in range(1, 9):
                for chosen in itertools.combinations(numbers, many):
                    ranges = []
                    for number in chosen:
                        if ranges and ranges[-1][1] == number - 1:
                            ranges[-1] = (ranges[-1][0], number)
                        else:
                            ranges.append((number, number))
                    layout = field(3, signed, tuple(ranges))
                    entry = set_form(chosen, 3, signed)
                    self.assertEqual(whole(layout), (entry,))
                    self.assertEqual(how_many(layout, (entry,)), many)
                    for number in numbers:
                        self.assertEqual(belongs(layout, (entry,), (number,)), number in chosen)
                    self.assertEqual(only(layout, (entry,)), chosen if many == 1 else None)

    def test_a_single_integer_has_its_code_in_all_bits(self):
        for width, signed, number, code in [
            (8, False, 0, 0), (8, True, -1, 255), (32, True, -2, 4294967294), (32, False, 4294967295, 4294967295),
            (1, True, -1, 1), (12, True, -1, 4095),
        ]:
            entry = ("bits", 2 ** width - 1, code)
            self.assertEqual(single(field(width, signed), (number,)), (entry,))
            self.assertEqual(only(field(width, signed), (entry,)), (number,))
            self.assertEqual(how_many(field(width, signed), (entry,)), 1)

    def test_large_sets_are_counted_without_listing_them(self):
        self.assertEqual(how_many(field(32, True), (("bits", 0, 0),)), 2 ** 32)
        self.assertEqual(how_many(field(32, False), (("bits", 2 ** 31 + 1, 1),)), 2 ** 30)
        self.assertIs(belongs(field(32, False), (("bits", 2 ** 31 + 1, 1),), (2 ** 31 - 1,)), True)
        self.assertIs(belongs(field(32, False), (("bits", 2 ** 31 + 1, 1),), (2 ** 31 - 2,)), False)
        self.assertIs(belongs(field(32, True), (("bits", 2 ** 31, 2 ** 31),), (-1,)), True)
        self.assertIs(belongs(field(32, True), (("bits", 2 ** 31, 2 ** 31),), (1,)), False)
        self.assertIs(belongs(field(16, True), (("among", (-2, 700)),), (-2,)), True)
        self.assertIs(belongs(field(16, True), (("among", (-2, 700)),), (2,)), False)


class WholeTest(unittest.TestCase):
    def test_the_examples_of_point_85(self):
        seven = ("bits", 255, 7)
        self.assertEqual(whole((A, S)), (("among", (1, 2, 3)), ("counts", (0, 1, 2), (seven, seven))))
        self.assertEqual(how_many((A, S), whole((A, S))), 9)
        self.assertEqual(single((A, S), (2, (7,))), (("bits", 255, 2), ("counts", (1,), (("bits", 255, 7),))))
        self.assertEqual(whole((R, C)), (
            ("counts", (0, 1, 2), ((("bits", 0, 0),), (("bits", 0, 0),))),
            ("cases", (("on", (("bits", 255, 3),)), ("off", ()))),
        ))

    def test_a_layout_without_members(self):
        for layout in [(), (("literal", (1,)), ("reserved", 9), ("check", "sum"))]:
            self.assertEqual(whole(layout), ())
            self.assertEqual(single(layout, ()), ())
            self.assertEqual(how_many(layout, ()), 1)
            self.assertEqual(only(layout, ()), ())
            self.assertIs(belongs(layout, (), ()), True)

    def test_each_kind_of_count(self):
        part = ("bits", 0, 0)
        for count, numbers in [(("exactly", 2), (2,)), (("counted", "u32le", 1, 3), (1, 2, 3)),
                               (("counted", "u8", 3, 3), (3,)), (("marked", 2), (0, 1, 2)),
                               (("exactly", 60), (60,)), (("marked", 60), tuple(range(61)))]:
            self.assertEqual(whole((array("u32be", "s", count),)), (("counts", numbers, (part,) * numbers[-1]),))
            self.assertEqual(whole((("list", "s", count, (integer("u16le", "a"),)),)),
                             (("counts", numbers, ((part,),) * numbers[-1]),))

    def test_free_bits_have_no_entry_and_parts_are_in_order(self):
        word = ("word", "u16le", (("x", 5, True, ((-1, 0),), None), (None, 4, False, None, None),
                                  ("y", 7, False, ((9, 9),), None)))
        self.assertEqual(whole((word,)), (("among", (-1, 0)), ("bits", 127, 9)))

    def test_a_number_of_elements_that_is_0_has_no_entries(self):
        self.assertEqual(single((R, S), ((), ())), (("counts", (0,), ()), ("counts", (0,), ())))
        self.assertEqual(with_member((A, S), whole((A, S)), "s", ()), (("among", (1, 2, 3)), ("counts", (0,), ())))

    def test_cases_are_in_the_order_of_the_layout(self):
        choice = ("choice", "c", "u16be", ((9, "z", ()), (3, "a", ()), (5, "m", (R,))))
        inner = (("counts", (0, 1, 2), ((("bits", 0, 0),),) * 2),)
        self.assertEqual(whole((choice,)), (("cases", (("z", ()), ("a", ()), ("m", inner))),))
        self.assertEqual(single((choice,), (("a", ()),)), (("cases", (("a", ()),)),))

    def test_records_are_nested(self):
        layout = (("record", "r", (A, ("record", "q", (S,)), ("record", "e", ()))),)
        self.assertEqual(whole(layout), ((whole((A,))[0], whole((S,)), ()),))
        self.assertEqual(only(layout, single(layout, ((1, ((7,),), ()),))), ((1, ((7,),), ()),))


class RandomTest(unittest.TestCase):
    def test_whole_patterns(self):
        for layout in random_layouts(8000, 250, 300):
            records = records_in(layout, whole_domain(layout))
            self.assertEqual(whole(layout), pattern_of(layout, records), layout)
            self.assertEqual(how_many(layout, whole(layout)), len(records), layout)

    def test_single_patterns(self):
        rng = random.Random(81)
        for layout in random_layouts(8100, 150, 300) + random_layouts(8101, 50, 3000, wide=True):
            records = records_in(layout, whole_domain(layout, WIDE))
            for record in rng.sample(records, min(10, len(records))):
                self.assertEqual(single(layout, record), pattern_of(layout, [record]))
                self.assertEqual(only(layout, single(layout, record)), record)
                self.assertEqual(how_many(layout, single(layout, record)), 1)

    def test_which_records_belong_and_how_many(self):
        for layout, domain in domains(8200, 150, False):
            chosen = records_in(layout, domain)
            pattern = pattern_of(layout, chosen)
            self.assertEqual(how_many(layout, pattern), len(chosen), (layout, pattern))
            self.assertEqual(only(layout, pattern), chosen[0] if len(chosen) == 1 else None, (layout, pattern))
            inside = dict.fromkeys(chosen)
            for record in records_in(layout, whole_domain(layout)):
                self.assertIs(belongs(layout, pattern, record), record in inside, (layout, pattern, record))

    def test_wide_fields(self):
        rng = random.Random(83)
        for layout, domain in domains(8300, 100, True):
            chosen = records_in(layout, domain)
            pattern = pattern_of(layout, chosen)
            self.assertEqual(how_many(layout, pattern), len(chosen), (layout, pattern))
            self.assertEqual(only(layout, pattern), chosen[0] if len(chosen) == 1 else None, (layout, pattern))
            inside = dict.fromkeys(chosen)
            for _ in range(20):
                other = random_domain(rng, whole_domain(layout, WIDE), layout)
                if many_in(layout, other) <= 100:
                    for record in records_in(layout, other):
                        self.assertIs(belongs(layout, pattern, record), record in inside)
            for record in chosen:
                self.assertIs(belongs(layout, pattern, record), True)

    def test_one_member_is_set(self):
        rng = random.Random(84)
        for layout, domain in domains(8400, 120, False) + domains(8401, 60, True):
            chosen = records_in(layout, domain)
            pattern = pattern_of(layout, chosen)
            names = [name for item in layout for name in names_of(item)]
            for place, name in enumerate(names):
                value = rng.choice(chosen)[place]
                left = [record for record in chosen if record[place] == value]
                self.assertEqual(with_member(layout, pattern, name, value), pattern_of(layout, left))


def names_of(item):
    if item[0] == "word":
        return [part[0] for part in item[2] if part[0] is not None]
    return [item[1]] if item[0] in ("array", "list", "choice", "record") else []


class CountingTest(unittest.TestCase):
    def test_numbers_of_records_that_are_astronomical(self):
        layout = (array("u32be", "s", ("exactly", 60)), array("u8", "t", ("counted", "u8", 0, 60)))
        self.assertEqual(how_many(layout, whole(layout)), 2 ** 1920 * sum(256 ** number for number in range(61)))

    def test_different_entries_at_different_indexes(self):
        layout = (array("u8", "s", ("marked", 4)),)
        entries = (("bits", 255, 1), ("among", (1, 2, 4)), ("among", (1, 2, 4)), ("bits", 254, 0))
        self.assertEqual(how_many(layout, (("counts", (0, 2, 3, 4), entries),)), 1 + 3 + 9 + 18)
        self.assertEqual(how_many(layout, (("counts", (1, 2), entries[:2]),)), 1 + 3)
        self.assertEqual(only(layout, (("counts", (1,), entries[:1]),)), ((1,),))
        self.assertIsNone(only(layout, (("counts", (2,), entries[:2]),)))
        self.assertIsNone(only(layout, (("counts", (0, 1), entries[:1]),)))

    def test_an_entry_at_an_index_says_nothing_about_shorter_arrays(self):
        layout = (array("u8", "s", ("marked", 3)),)
        pattern = (("counts", (0, 1, 3), (("bits", 255, 1), ("bits", 255, 2), ("bits", 255, 3))),)
        for value, inside in [((), True), ((1,), True), ((2,), False), ((1, 2), False), ((1, 2, 3), True),
                              ((1, 2, 4), False)]:
            self.assertIs(belongs(layout, pattern, (value,)), inside)

    def test_cases(self):
        layout = (C, ("choice", "d", "u8", ((1, "on", (A,)), (2, "off", (S,)))))
        self.assertEqual(how_many(layout, whole(layout)), 2 * (3 + 3))
        pattern = (("cases", (("off", ()),)), ("cases", (("off", (("counts", (1,), (("bits", 255, 7),)),)),)))
        self.assertEqual(how_many(layout, pattern), 1)
        self.assertEqual(only(layout, pattern), (("off", ()), ("off", ((7,),))))
        self.assertIs(belongs(layout, pattern, (("off", ()), ("off", ((7,),)))), True)
        self.assertIs(belongs(layout, pattern, (("on", (3,)), ("off", ((7,),)))), False)
        self.assertIs(belongs(layout, pattern, (("off", ()), ("off", ((),)))), False)
        self.assertIs(belongs(layout, pattern, (("off", ()), ("on", (1,)))), False)

    def test_two_cases_or_two_numbers_are_never_only_one_record(self):
        self.assertIsNone(only((C,), whole((C,))))
        self.assertIsNone(only((S,), whole((S,))))
        self.assertIsNone(only((A,), whole((A,))))
        self.assertIsNone(only((("record", "r", (A,)),), (whole((A,)),)))
        self.assertIsNone(only((C,), (("cases", (("on", (("bits", 254, 2),)),)),)))

    def test_patterns_are_tuples_throughout(self):
        layout = (A, S, R, C, ("record", "q", (A, S, R, C)))
        record = (1, (7,), ((5,),), ("on", (3,)), (1, (7,), ((5,),), ("off", ())))
        for pattern in [whole(layout), single(layout, record), with_member(layout, whole(layout), "q", record[4])]:
            self.assertEqual(hash(pattern), hash(pattern))
            self.assertIs(type(pattern), tuple)
        self.assertEqual(hash(only(layout, single(layout, record))), hash(record))


class InterfaceExampleTest(unittest.TestCase):
    def test_the_examples_of_the_interface(self):
        seven = ("bits", 255, 7)
        self.assertEqual(whole((A, S)), (("among", (1, 2, 3)), ("counts", (0, 1, 2), (seven, seven))))
        self.assertEqual(how_many((A, S), whole((A, S))), 9)
        self.assertEqual(with_member((A, S), whole((A, S)), "s", ()), (("among", (1, 2, 3)), ("counts", (0,), ())))


if __name__ == "__main__":
    unittest.main()
