"""Tests of bytebridge.reading: points 100 to 105, and its section of the interface."""

import random
import unittest

from bytebridge.errors import BridgeError, UnexpectedByte, UnexpectedEnd
from bytebridge.messages import write_message
from bytebridge.patterns import single, whole
from bytebridge.reading import Reader, certain, possible, read_message
from oracle import certain_in, encoded, fullest, many_in, messages_for, pattern_of, random_domain, records_in
from oracle import whole_domain
from samples import WIDE, array, integer, random_layouts

X = integer("u16be", "x")
Y = integer("u8", "y", False, ((0, 2),))
# The layout of point 105.
STEPS = (
    ("choice", "mode", "u8", (
        (0, "off", (integer("u8", "level", False, ((3, 3),)),)),
        (5, "on", (integer("u8", "level", False, ((3, 3),)), integer("u8", "since"))),
    )),
    ("list", "readings", ("marked", 2), (integer("u16be", "t"),)),
)
BYTE = ("bits", 0, 0)


def some_fill(rng):
    """Alternatives for free bits and reserved bytes: 0 and one other value, the same for all messages."""
    other = rng.randrange(1, 2 ** 32)
    return lambda bits: sorted({0, other % 2 ** bits})


def sets_of_messages(seed, many, wide, free=True):
    """Random layouts, each with a domain and the pairs of all records of the domain and all their messages."""
    rng = random.Random(seed)
    found = []
    for layout in random_layouts(seed, many, 10 ** 6 if wide else 300, wide=wide, free=free):
        domain = whole_domain(layout, WIDE)
        if wide or rng.random() < 0.6:
            domain = random_domain(rng, domain, layout)
        if many_in(layout, domain) > 300:
            continue
        fill = some_fill(rng)
        pairs = [(record, message) for record in records_in(layout, domain)
                 for message in messages_for(layout, record, fill)]
        if len(pairs) <= 1000:
            found.append((layout, domain, pairs))
    return found


def by_prefix(pairs):
    """For each sequence of bytes with which a message begins the dict of the records of such messages."""
    found = {}
    for record, message in pairs:
        for many in range(len(message) + 1):
            found.setdefault(tuple(message[:many]), {})[record] = True
    return found


class ReadingTest(unittest.TestCase):
    def assert_unexpected(self, layout, data, place, start=None):
        with self.assertRaises(UnexpectedByte) as caught:
            possible(layout, data, start=start)
        self.assertEqual(caught.exception.place, place)
        self.assertIsInstance(caught.exception, BridgeError)


class PossibleTest(ReadingTest):
    def test_without_bytes_the_pattern_is_the_start_pattern(self):
        for layout in random_layouts(10000, 60, 10 ** 9) + random_layouts(10001, 60, 10 ** 30, wide=True):
            pattern, complete = possible(layout, [])
            self.assertEqual(pattern, whole(layout))
            self.assertIs(complete, encoded(layout, fullest(layout, whole_domain(layout, WIDE))) == [])

    def test_a_layout_without_items(self):
        self.assertEqual(possible((), []), ((), True))
        self.assert_unexpected((), [0], 0)
        self.assertEqual(possible((("record", "r", ()),), []), (((),), True))
        self.assert_unexpected((("record", "r", ()),), [7, 7], 0)

    def test_a_layout_without_members(self):
        layout = (("literal", (7, 8)), ("reserved", 2), ("check", "sum"))
        self.assertEqual(possible(layout, []), ((), False))
        self.assertEqual(possible(layout, [7, 8, 255, 1]), ((), False))
        self.assertEqual(possible(layout, [7, 8, 255, 1, 15]), ((), True))
        self.assert_unexpected(layout, [8], 0)
        self.assert_unexpected(layout, [7, 7], 1)
        self.assert_unexpected(layout, [7, 8, 255, 1, 14], 4)
        self.assert_unexpected(layout, [7, 8, 255, 1, 15, 0], 5)

    def test_words_in_both_byte_orders(self):
        self.assertEqual(possible((X,), [1])[0], (("bits", 65280, 256),))
        self.assertEqual(possible((X,), [1, 2])[0], (("bits", 65535, 258),))
        layout = (integer("u32le", "x", True),)
        self.assertEqual(possible(layout, [1])[0], (("bits", 255, 1),))
        self.assertEqual(possible(layout, [1, 2])[0], (("bits", 65535, 513),))
        self.assertEqual(possible(layout, [1, 2, 255])[0], (("bits", 16777215, 16712193),))
        self.assertEqual(read_message(layout, [254, 255, 255, 255]), (-2,))

    def test_parts_that_are_spread_over_several_bytes(self):
        parts = (("a", 3, False, None, None), ("b", 7, True, ((-1, 0),), None), (None, 2, False, None, None),
                 ("c", 4, False, None, None))
        big = (("word", "u16be", parts),)
        small = (("word", "u16le", parts),)
        # 0b101_1111111_10_0110 is the word of a = 5, b = -1, c = 6 with the free bits 10.
        self.assertEqual(possible(big, [0b10111111]), ((("bits", 7, 5), ("bits", 127, 127), BYTE), False))
        self.assertEqual(possible(big, [0b10111111, 0b11100110]),
                         ((("bits", 7, 5), ("bits", 127, 127), ("bits", 15, 6)), True))
        self.assertEqual(possible(small, [0b11100110]), ((BYTE, ("bits", 127, 127), ("bits", 15, 6)), False))
        self.assert_unexpected(big, [0b10111011, 0], 0)
        self.assert_unexpected(big, [0b10111111, 0b00100110], 1)
        self.assert_unexpected(small, [0b01100110, 0], 0)
        self.assert_unexpected(small, [0b11100110, 0b10111101], 1)

    def test_the_least_wrong_byte_is_unexpected(self):
        layout = (("word", "u32be", (("a", 12, False, None, None), ("b", 8, False, ((1, 2),), None),
                                     ("c", 12, False, None, None))), Y)
        self.assertEqual(read_message(layout, [1, 32, 31, 255, 2]), (18, 1, 4095, 2))
        self.assert_unexpected(layout, [1, 33, 1, 1, 9], 1)
        self.assert_unexpected(layout, [1, 32, 1, 1, 9], 2)
        self.assert_unexpected(layout, [1, 32, 49, 1, 9], 2)
        self.assert_unexpected(layout, [1, 32, 31, 1, 9], 4)

    def test_an_integer_that_must_be_small(self):
        # A start pattern allows the integers 0, 1 and 256 only.
        start = (("among", (0, 1, 256)), ("among", (0, 1, 2)))
        self.assertEqual(possible((X, Y), [0], start=start), ((("bits", 65534, 0), ("among", (0, 1, 2))), False))
        self.assertEqual(possible((X, Y), [1], start=start), ((("bits", 65535, 256), ("among", (0, 1, 2))), False))
        self.assert_unexpected((X, Y), [2], 0, start)
        self.assert_unexpected((X, Y), [1, 1], 1, start)
        self.assert_unexpected((X, Y), [0, 2, 1], 1, start)

    def test_integers_at_both_sides_of_0(self):
        layout = (integer("u16le", "a", True), array("u16be", "s", ("exactly", 1), None, None, True))
        start = (("among", (-1, 0, 255)), ("counts", (1,), (("among", (-257, -1, 254)),)))
        self.assertEqual(possible(layout, [255], start=start)[0], (("among", (-1, 255)), start[1]))
        self.assertEqual(possible(layout, [0], start=start)[0], (("bits", 65535, 0), start[1]))
        pattern, complete = possible(layout, [255, 255, 255], start=start)
        self.assertEqual(pattern, (("bits", 65535, 65535), ("counts", (1,), (("bits", 65535, 65535),))))
        self.assertIs(complete, False)
        self.assert_unexpected(layout, [255, 1], 1, start)
        self.assert_unexpected(layout, [255, 0, 255, 254], 3, start)

    def test_an_exact_number_of_elements(self):
        layout = (array("u16be", "s", ("exactly", 2)),)
        self.assertEqual(possible(layout, [1, 2, 3]),
                         ((("counts", (2,), (("bits", 65535, 258), ("bits", 65280, 768))),), False))
        self.assertEqual(possible(layout, [1, 2, 3, 4])[1], True)
        self.assert_unexpected(layout, [1, 2, 3, 4, 5], 4)

    def test_a_number_of_elements_in_a_word(self):
        layout = (array("u8", "s", ("counted", "u8", 1, 3)),)
        self.assertEqual(possible(layout, []), ((("counts", (1, 2, 3), (BYTE,) * 3),), False))
        self.assertEqual(possible(layout, [2]), ((("counts", (2,), (BYTE,) * 2),), False))
        self.assertEqual(possible(layout, [1, 9]), ((("counts", (1,), (("bits", 255, 9),)),), True))
        for number in [0, 4, 255]:
            self.assert_unexpected(layout, [number, 1], 0)

    def test_a_number_of_elements_byte_by_byte(self):
        for word, zeros, rest in [("u16le", 1, 1), ("u32le", 1, 3), ("u16be", 1, 1), ("u32be", 3, 1)]:
            layout = (array("u8", "s", ("counted", word, 0, 2)),)
            whole_entry = (("counts", (0, 1, 2), (BYTE, BYTE)),)
            if word.endswith("be"):
                self.assertEqual(possible(layout, [0] * zeros), (whole_entry, False))
                self.assertEqual(possible(layout, [0] * zeros + [2])[0], (("counts", (2,), (BYTE, BYTE)),))
                self.assert_unexpected(layout, [0] * zeros + [3], zeros)
                self.assert_unexpected(layout, [1], 0)
            else:
                self.assertEqual(possible(layout, [2])[0], (("counts", (2,), (BYTE, BYTE)),))
                self.assertEqual(possible(layout, [0] * (rest + 1)), ((("counts", (0,), ()),), True))
                self.assert_unexpected(layout, [3], 0)
                self.assert_unexpected(layout, [2] + [0] * (rest - 1) + [1], rest)

    def test_numbers_of_a_start_pattern(self):
        layout = (array("u8", "s", ("counted", "u16be", 0, 9)),)
        start = (("counts", (0, 2, 5), (BYTE,) * 5),)
        self.assertEqual(possible(layout, [0, 2], start=start), ((("counts", (2,), (BYTE,) * 2),), False))
        self.assertEqual(possible(layout, [0, 0], start=start), ((("counts", (0,), ()),), True))
        self.assert_unexpected(layout, [0, 1], 1, start)
        self.assert_unexpected(layout, [0, 9], 1, start)

    def test_marks(self):
        layout = (array("u8", "s", ("marked", 3)),)
        whole_entry = ("counts", (0, 1, 2, 3), (BYTE,) * 3)
        one = ("bits", 255, 9)
        self.assertEqual(possible(layout, []), ((whole_entry,), False))
        self.assertEqual(possible(layout, [0]), ((("counts", (0,), ()),), True))
        self.assertEqual(possible(layout, [1]), ((("counts", (1, 2, 3), (BYTE,) * 3),), False))
        self.assertEqual(possible(layout, [1, 9]), ((("counts", (1, 2, 3), (one, BYTE, BYTE)),), False))
        self.assertEqual(possible(layout, [1, 9, 0]), ((("counts", (1,), (one,)),), True))
        self.assertEqual(possible(layout, [1, 9, 1]), ((("counts", (2, 3), (one, BYTE, BYTE)),), False))
        self.assertEqual(possible(layout, [1, 9, 1, 9, 1]), ((("counts", (3,), (one, one, BYTE)),), False))
        self.assertEqual(possible(layout, [1, 9, 1, 9, 1, 9]), ((("counts", (3,), (one,) * 3),), False))
        self.assertEqual(possible(layout, [1, 9, 1, 9, 1, 9, 0]), ((("counts", (3,), (one,) * 3),), True))

    def test_marks_that_are_unexpected(self):
        layout = (array("u8", "s", ("marked", 2)), Y)
        for data, place in [([2], 0), ([255, 1], 0), ([1, 0, 2], 2), ([1, 0, 1, 0, 1], 4), ([1, 0, 1, 0, 2], 4),
                            ([1, 0, 1, 0, 0, 3], 5), ([0, 0, 0], 2)]:
            self.assert_unexpected(layout, data, place)
        start = (("counts", (1, 2), (BYTE, BYTE)), ("bits", 255, 2))
        self.assert_unexpected(layout, [0], 0, start)
        start = (("counts", (0, 2), (BYTE, BYTE)), ("bits", 255, 2))
        self.assertEqual(possible(layout, [1], start=start)[0][0], ("counts", (2,), (BYTE, BYTE)))
        self.assert_unexpected(layout, [1, 7, 0], 2, start)
        start = (("counts", (1,), (BYTE,)), ("bits", 255, 2))
        self.assert_unexpected(layout, [1, 7, 1], 2, start)
        self.assertEqual(possible(layout, [1, 7, 0, 2], start=start)[1], True)
        start = (("counts", (0,), ()), ("bits", 255, 2))
        self.assert_unexpected(layout, [1], 0, start)
        self.assertEqual(possible(layout, [0, 2], start=start)[1], True)

    def test_marks_at_the_least_and_the_greatest_numbers(self):
        layout = (array("u8", "s", ("marked", 60)),)
        for number in [0, 1, 59, 60]:
            message = [1, 7] * number + [0]
            self.assertEqual(read_message(layout, message), ((7,) * number,))
            self.assertIs(possible(layout, message[:-1])[1], False)
        self.assert_unexpected(layout, [1, 7] * 60 + [1], 120)

    def test_elements_of_lists(self):
        layout = (("list", "l", ("counted", "u8", 0, 3), (X, Y)),)
        free = (BYTE, ("among", (0, 1, 2)))
        first, second = (("bits", 65535, 258), ("bits", 255, 0)), (("bits", 65280, 768), ("among", (0, 1, 2)))
        self.assertEqual(possible(layout, [2, 1, 2, 0, 3])[0], (("counts", (2,), (first, second)),))
        self.assertEqual(possible(layout, [3, 1, 2])[0], (
            ("counts", (3,), ((("bits", 65535, 258), ("among", (0, 1, 2))), free, free)),))
        self.assert_unexpected(layout, [2, 1, 2, 3], 3)

    def test_entries_of_a_start_pattern_at_each_index(self):
        layout = (array("u8", "s", ("marked", 3)),)
        start = (("counts", (0, 1, 3), (("bits", 254, 2), ("among", (4, 5, 7)), ("bits", 255, 9))),)
        self.assertEqual(possible(layout, [1, 3], start=start)[0],
                         (("counts", (1, 3), (("bits", 255, 3), ("among", (4, 5, 7)), ("bits", 255, 9))),))
        self.assert_unexpected(layout, [1, 4], 1, start)
        self.assert_unexpected(layout, [1, 3, 1, 6], 3, start)
        self.assert_unexpected(layout, [1, 3, 1, 7, 1, 7], 5, start)
        self.assertEqual(possible(layout, [1, 3, 1, 7, 1, 9, 0], start=start)[1], True)

    def test_cases(self):
        cases = ((256, "a", (Y,)), (258, "b", (X,)), (2, "c", ()))
        big = (("choice", "c", "u16be", cases), Y)
        small = (("choice", "c", "u16le", cases), Y)
        inner = (("among", (0, 1, 2)),)
        self.assertEqual(possible(big, [1])[0], (("cases", (("a", inner), ("b", (BYTE,)))), inner[0]))
        self.assertEqual(possible(big, [0])[0], (("cases", (("c", ()),)), inner[0]))
        self.assertEqual(possible(small, [2])[0], (("cases", (("b", (BYTE,)), ("c", ()))), inner[0]))
        self.assertEqual(possible(small, [2, 1, 7])[0], (("cases", (("b", (("bits", 65280, 1792),)),)), inner[0]))
        self.assertEqual(read_message(big, [1, 0, 2, 1]), (("a", (2,)), 1))
        self.assertEqual(read_message(big, [0, 2, 1]), (("c", ()), 1))
        self.assert_unexpected(big, [2], 0)
        self.assert_unexpected(big, [1, 1], 1)
        self.assert_unexpected(big, [0, 0], 1)
        self.assert_unexpected(small, [1], 0)
        self.assert_unexpected(small, [0, 0], 1)
        self.assert_unexpected(big, [1, 0, 3], 2)
        start = (("cases", (("a", (("bits", 255, 1),)), ("c", ()))), inner[0])
        self.assertEqual(possible(big, [1], start=start)[0], (("cases", (("a", (("bits", 255, 1),)),)), inner[0]))
        self.assert_unexpected(big, [1, 2], 1, start)
        self.assert_unexpected(big, [1, 0, 0], 2, start)

    def test_free_bits_and_reserved_bytes_that_are_not_0(self):
        word = ("word", "u8", ((None, 3, False, None, None), ("a", 2, False, None, None), (None, 3, False, None, None)))
        layout = (word, ("reserved", 2), ("check", "sum"))
        for first in range(256):
            data = [first, 255, first]
            self.assertEqual(read_message(layout, data + [sum(data) % 256]), (first // 8 % 4,))
        for second in range(256):
            self.assertEqual(possible(layout, [8, second, 255 - second, 7]), ((("bits", 3, 1),), True))

    def test_check_bytes_depend_on_free_bits(self):
        layout = (("word", "u8", (("a", 4, False, None, None), (None, 4, False, None, None))), ("check", "xor"), Y)
        self.assertEqual(read_message(layout, [31, 31, 2]), (1, 2))
        self.assert_unexpected(layout, [31, 16, 2], 1)

    def test_check_bytes_inside_of_lists_cases_and_records(self):
        summed = ("check", "sum")
        layout = (
            ("literal", (10,)),
            ("list", "l", ("marked", 2), (integer("u8", "a"), summed)),
            ("choice", "c", "u8", ((3, "x", (("check", "xor"), summed)),)),
            ("record", "r", (summed,)),
        )
        message = [10, 1, 5, 16, 1, 6, 39, 0, 3]
        message += [10 ^ 1 ^ 5 ^ 16 ^ 1 ^ 6 ^ 39 ^ 3]
        message += [sum(message) % 256]
        message += [sum(message) % 256]
        self.assertEqual(read_message(layout, message), (((5,), (6,)), ("x", ()), ()))
        for place in [3, 6, 9, 10, 11]:
            for wrong in [0, 255, message[place] - 1]:
                self.assert_unexpected(layout, message[:place] + [wrong] + message[place + 1:], place)

    def test_a_check_byte_without_bytes_before_it(self):
        self.assertEqual(read_message((("check", "sum"), ("check", "xor"), Y), [0, 0, 1]), (1,))
        self.assert_unexpected((("check", "sum"),), [1], 0)
        self.assert_unexpected((("check", "xor"),), [1], 0)

    def test_bytes_after_the_end(self):
        self.assert_unexpected((X,), [1, 2, 0], 2)
        self.assert_unexpected((X,), [1, 2, 3, 4, 5], 2)
        self.assert_unexpected((array("u8", "s", ("marked", 2)),), [0, 1], 1)

    def test_neither_the_bytes_nor_what_is_returned_are_kept(self):
        data = [1, 2]
        pattern, _ = possible((X, Y), data)
        data.append(77)
        self.assertEqual(data, [1, 2, 77])
        self.assertEqual(pattern, (("bits", 65535, 258), ("among", (0, 1, 2))))
        self.assertIs(type(possible((X, Y), [1])), tuple)

    def test_errors_are_raised_before_the_end_is_missed(self):
        with self.assertRaises(UnexpectedByte):
            read_message((Y, X), [3])
        with self.assertRaises(UnexpectedEnd):
            read_message((Y, X), [2])
        with self.assertRaises(UnexpectedEnd):
            read_message((Y, X), [])
        self.assertEqual(read_message((), []), ())

    def test_a_layout_with_a_thousand_items(self):
        filled = [("record", f"r{number}", (integer("u8", "a"),)) for number in range(400)]
        layout = tuple(filled + [("record", f"e{number}", ()) for number in range(600)])
        message = [number % 256 for number in range(400)]
        record = read_message(layout, message)
        self.assertEqual(record, tuple([(byte,) for byte in message]) + ((),) * 600)
        self.assertIs(possible(layout, message[:-1])[1], False)


class RandomTest(ReadingTest):
    def check_set(self, layout, domain, pairs, all_bytes):
        start = pattern_of(layout, records_in(layout, domain))
        prefixes = by_prefix(pairs)
        messages = {tuple(message): True for _, message in pairs}
        for data, records in prefixes.items():
            expected = (pattern_of(layout, list(records)), data in messages)
            self.assertEqual(possible(layout, list(data), start=start), expected, (layout, start, data))
        if all_bytes:
            rng = random.Random(len(pairs))
            for data in rng.sample(sorted(prefixes), min(6, len(prefixes))):
                for byte in range(256):
                    if data + (byte,) not in prefixes:
                        self.assert_unexpected(layout, list(data) + [byte, byte], len(data), start)

    def test_small_layouts_with_every_byte(self):
        for layout, domain, pairs in sets_of_messages(10100, 80, False, free=False):
            self.check_set(layout, domain, pairs, True)

    def test_small_layouts_with_free_bits(self):
        for layout, domain, pairs in sets_of_messages(10200, 150, False):
            self.check_set(layout, domain, pairs, False)

    def test_wide_fields_with_every_byte(self):
        for layout, domain, pairs in sets_of_messages(10300, 80, True, free=False):
            self.check_set(layout, domain, pairs, True)

    def test_wide_fields_with_free_bits(self):
        for layout, domain, pairs in sets_of_messages(10400, 120, True):
            self.check_set(layout, domain, pairs, False)

    def test_messages_store_their_records(self):
        for layout, domain, pairs in sets_of_messages(10500, 100, False) + sets_of_messages(10501, 100, True):
            for record, message in pairs[:50]:
                self.assertEqual(read_message(layout, message), record)
                self.assertEqual(possible(layout, message), (single(layout, record), True))
                if message:
                    with self.assertRaises(UnexpectedEnd):
                        read_message(layout, message[:-1])
                self.assert_unexpected(layout, message + [0], len(message))

    def test_certain_facts(self):
        for layout, domain, pairs in sets_of_messages(10600, 120, False) + sets_of_messages(10601, 60, True):
            pattern = pattern_of(layout, records_in(layout, domain))
            self.assertEqual(certain(layout, pattern), certain_in(layout, domain), (layout, pattern))


class CertainTest(unittest.TestCase):
    def test_an_integer_is_certain_if_only_one_is_possible(self):
        layout = (X, integer("u8", "y", True))
        self.assertEqual(certain(layout, (("bits", 65534, 4), ("among", (1, 2, 4)))), [])
        self.assertEqual(certain(layout, (("bits", 65535, 4), ("bits", 255, 255))), [("x", 4), ("y", -1)])

    def test_facts_that_are_certain_before_the_first_byte(self):
        layout = (integer("u8", "a", False, ((7, 7),)), array("u8", "s", ("exactly", 2), ((0, 0),)), Y,
                  ("list", "l", ("counted", "u8", 2, 3), (integer("u8", "b", True, ((-1, -1),)), X)),
                  ("choice", "c", "u8", ((3, "only", ()),)), ("record", "r", (integer("u8", "z", False, ((1, 1),)),)))
        self.assertEqual(certain(layout, whole(layout)), [
            ("a", 7), ("s.length", 2), ("s[0]", 0), ("s[1]", 0), ("l[0].b", -1), ("l[1].b", -1), ("c.case", "only"),
            ("r.z", 1)])

    def test_elements_below_the_least_possible_number(self):
        layout = (array("u8", "s", ("marked", 4)),)
        entries = (("bits", 255, 1), ("bits", 255, 2), ("bits", 255, 3))
        self.assertEqual(certain(layout, (("counts", (2, 3), entries),)), [("s[0]", 1), ("s[1]", 2)])
        self.assertEqual(certain(layout, (("counts", (0, 3), entries),)), [])
        self.assertEqual(certain(layout, (("counts", (3,), entries),)),
                         [("s.length", 3), ("s[0]", 1), ("s[1]", 2), ("s[2]", 3)])
        self.assertEqual(certain(layout, (("counts", (0,), ()),)), [("s.length", 0)])

    def test_facts_that_several_cases_have_in_common(self):
        one = integer("u8", "a", False, ((1, 1),))
        two = integer("u8", "b", False, ((2, 2),))
        cases = ((1, "p", (one, two)), (2, "q", (two, one)), (3, "r", (two, integer("u8", "a", False, ((9, 9),)))))
        layout = (("choice", "c", "u8", cases),)
        p, q, r = whole(layout)[0][1]
        self.assertEqual(certain(layout, (("cases", (p, q)),)), [("c.value.a", 1), ("c.value.b", 2)])
        self.assertEqual(certain(layout, (("cases", (q, r)),)), [("c.value.b", 2)])
        self.assertEqual(certain(layout, (("cases", (p, q, r)),)), [("c.value.b", 2)])
        self.assertEqual(certain(layout, (("cases", (q,)),)), [("c.case", "q"), ("c.value.b", 2), ("c.value.a", 1)])

    def test_equal_paths_of_members_of_different_kinds(self):
        first = array("u8", "s", ("exactly", 2), ((5, 5),))
        second = ("record", "s", (integer("u8", "length", False, ((2, 2),)),))
        layout = (("choice", "c", "u8", ((1, "p", (first,)), (2, "q", (second,)))),)
        self.assertEqual(certain(layout, whole(layout)), [("c.value.s.length", 2)])

    def test_the_facts_are_a_new_list_each_time(self):
        layout = (integer("u8", "a", False, ((7, 7),)),)
        certain(layout, whole(layout)).append(("b", 1))
        self.assertEqual(certain(layout, whole(layout)), [("a", 7)])

    def test_elements_that_are_unknown_are_gone_through_once(self):
        cases = tuple([(number, f"c{number}", (integer("u8", "v", False, ((3, 3),)),)) for number in range(200)])
        layout = (("list", "l", ("exactly", 60), (("choice", "c", "u8", cases), ("choice", "d", "u16be", cases))),)
        self.assertEqual(len(certain(layout, whole(layout))), 121)
        self.assertEqual(certain(layout, whole(layout))[1:3], [("l[0].c.value.v", 3), ("l[0].d.value.v", 3)])


class ReaderTest(unittest.TestCase):
    def assert_refused(self, reader, data, place):
        with self.assertRaises(UnexpectedByte) as caught:
            reader.take(data)
        self.assertEqual(caught.exception.place, place)

    def test_the_example_of_point_105(self):
        reader = Reader(STEPS)
        self.assertEqual(reader.take([]), [("mode.value.level", 3)])
        self.assertEqual(reader.take([5]), [("mode.case", "on")])
        self.assertEqual(reader.take([3, 200, 1, 1, 44]), [("mode.value.since", 200), ("readings[0].t", 300)])
        self.assertEqual(reader.take([1, 0]), [("readings.length", 2)])
        self.assert_refused(reader, [7, 1], 9)
        self.assertIs(reader.done, False)
        self.assertEqual(reader.received, [5, 3, 200, 1, 1, 44, 1, 0])
        self.assertEqual(reader.take([7, 0]), [("readings[1].t", 7)])
        self.assertIs(reader.done, True)

    def test_a_new_reader(self):
        self.assertIs(Reader(()).done, True)
        self.assertIs(Reader((("record", "r", ()),)).done, True)
        self.assertIs(Reader((X,)).done, False)
        self.assertIs(Reader((array("u8", "s", ("marked", 1)),)).done, False)
        self.assertEqual(Reader((X,)).received, [])

    def test_facts_are_returned_once(self):
        reader = Reader((integer("u8", "a", False, ((7, 7),)), X))
        self.assertEqual(reader.take([]), [("a", 7)])
        self.assertEqual(reader.take([]), [])
        self.assertEqual(reader.take([7]), [])
        self.assertEqual(reader.take([0]), [])
        self.assertEqual(reader.take([]), [])
        self.assertEqual(reader.take([1]), [("x", 1)])
        self.assertEqual(reader.take([]), [])
        self.assertEqual(reader.received, [7, 0, 1])

    def test_facts_that_become_certain_together_are_in_order(self):
        layout = (array("u8", "s", ("marked", 2)), X)
        self.assertEqual(Reader(layout).take([1, 8, 0, 1, 2]), [("s.length", 1), ("s[0]", 8), ("x", 258)])
        reader = Reader(layout)
        self.assertEqual(reader.take([1, 8]), [("s[0]", 8)])
        self.assertEqual(reader.take([0, 1, 2]), [("s.length", 1), ("x", 258)])

    def test_after_the_end_every_byte_is_unexpected(self):
        reader = Reader((Y,))
        self.assertEqual(reader.take([1]), [("y", 1)])
        self.assert_refused(reader, [0], 1)
        self.assert_refused(reader, [1, 1], 1)
        self.assertEqual(reader.take([]), [])
        self.assertIs(reader.done, True)
        self.assertEqual(reader.received, [1])
        self.assert_refused(Reader(()), [0], 0)

    def test_a_refused_piece_leaves_no_trace(self):
        reader = Reader((X, Y))
        self.assert_refused(reader, [1, 2, 3], 2)
        self.assertEqual(reader.received, [])
        self.assertEqual(reader.take([]), [])
        self.assert_refused(reader, [1, 2, 2, 9], 3)
        self.assertIs(reader.done, False)
        self.assertEqual(reader.take([4]), [])
        self.assert_refused(reader, [2, 255], 2)
        self.assertEqual(reader.take([5, 1]), [("x", 1029), ("y", 1)])
        self.assertEqual(reader.received, [4, 5, 1])
        self.assertIs(reader.done, True)

    def test_what_is_passed_and_returned_is_not_kept(self):
        reader = Reader((X, Y))
        data = [1]
        reader.take(data)
        data.append(99)
        data[0] = 98
        reader.received.append(97)
        facts = reader.take([2])
        facts.append(("z", 1))
        self.assertEqual(facts[0], ("x", 258))
        self.assertEqual(reader.received, [1, 2])
        self.assertEqual(reader.take([0]), [("y", 0)])
        self.assertEqual(data, [98, 99])

    def test_readers_do_not_know_of_one_another(self):
        first = Reader((X, Y))
        second = Reader((X, Y))
        first.take([1, 2, 2])
        self.assertEqual(second.received, [])
        self.assertIs(second.done, False)
        self.assertEqual(second.take([3, 4]), [("x", 772)])

    def test_random_pieces(self):
        rng = random.Random(104)
        for layout, domain, pairs in sets_of_messages(10700, 120, False) + sets_of_messages(10701, 60, True):
            for _, message in rng.sample(pairs, min(3, len(pairs))):
                self.check_pieces(rng, layout, message)

    def check_pieces(self, rng, layout, message):
        reader = Reader(layout)
        place = 0
        told = []
        while place < len(message) or rng.random() < 0.5:
            piece = message[place:place + rng.choice([0, 1, 1, 2, 5])]
            if rng.random() < 0.3:
                wrong = piece + [rng.randrange(256)]
                try:
                    possible(layout, message[:place] + wrong)
                except UnexpectedByte as error:
                    self.assert_refused(reader, wrong, error.place)
            place += len(piece)
            now = certain(layout, possible(layout, message[:place])[0])
            new = [fact for fact in now if fact not in told]
            self.assertEqual(reader.take(piece), new)
            self.assertEqual(reader.received, message[:place])
            self.assertIs(reader.done, place == len(message))
            told += new
        self.assertEqual(sorted(told), sorted(certain(layout, single(layout, read_message(layout, message)))))

    def test_a_long_message_byte_by_byte(self):
        layout = (("list", "l", ("marked", 60), (X, integer("u8", "q", False, ((0, 3),)), integer("u16le", "z"))),)
        record = (tuple([(number, number % 4, 65535 - number) for number in range(60)]),)
        message = write_message(layout, record)
        reader = Reader(layout)
        facts = []
        for byte in message:
            facts += reader.take([byte])
        self.assertIs(reader.done, True)
        self.assertEqual(len(facts), 181)
        self.assertEqual(facts[-1], ("l[59].z", 65476))


class InterfaceExampleTest(ReadingTest):
    def test_the_examples_of_the_interface(self):
        self.assertEqual(possible((X, Y), [1]), ((("bits", 65280, 256), ("among", (0, 1, 2))), False))
        self.assertEqual(possible((X, Y), [1, 2, 1], start=(("bits", 65280, 256), ("among", (1, 2)))),
                         ((("bits", 65535, 258), ("bits", 255, 1)), True))
        with self.assertRaises(UnexpectedByte) as caught:
            read_message((X, Y), [1, 2, 3])
        self.assertEqual(caught.exception.place, 2)
        with self.assertRaises(UnexpectedEnd):
            read_message((X, Y), [1, 2])

    def test_the_station_of_point_3(self):
        station = (integer("u8", "id"), ("list", "readings", ("marked", 3), (
            integer("u16be", "t"), integer("u8", "q", False, ((0, 3),)))), ("check", "xor"))
        self.assertEqual(read_message(station, [5, 1, 1, 2, 3, 0, 4]), (5, ((258, 3),)))

    def test_the_message_of_point_62(self):
        parts = (("mode", 3, False, None, None), (None, 4, False, None, None), ("ok", 1, False, None, None))
        layout = (("word", "u8", parts), array("u16le", "t", ("counted", "u8", 0, 2)), ("check", "sum"))
        self.assertEqual(read_message(layout, [191, 0, 191]), (5, 1, ()))
        self.assertEqual(read_message(layout, [161, 2, 2, 1, 3, 0, 169]), (5, 1, (258, 3)))


if __name__ == "__main__":
    unittest.main()
