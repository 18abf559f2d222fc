"""Tests of bytebridge.layouts: points 40 to 45 and 60, and its section of the interface."""

import unittest

from bytebridge.layouts import members, sizes

WORD_BYTES = {"u8": 1, "u16be": 2, "u16le": 2, "u32be": 4, "u32le": 4}
BITS = ("word", "u8", (("mode", 3, False, None, None), (None, 4, False, None, None), ("ok", 1, False, None, None)))
FREE = ("word", "u16be", ((None, 16, False, None, None),))
U8_A = ("word", "u8", (("a", 8, False, None, None),))
U32_B = ("word", "u32le", (("b", 32, True, None, None),))


def array(word, count, name="t"):
    return ("array", name, word, False, count, None, None)


def optional(name="o"):
    """A choice of 1, 3 or 5 bytes, the number of the case included."""
    return ("choice", name, "u8", (
        (4, "two", (("reserved", 2),)),
        (0, "none", ()),
        (9, "four", (array("u16be", ("exactly", 2)),)),
    ))


def sums(first, second):
    return {a + b for a in first for b in second}


def repeated(number, lengths):
    found = {0}
    for _ in range(number):
        found = sums(found, lengths)
    return found


def counted_lengths(count, lengths):
    """The lengths of an array or list, told number by number from the table of point 60."""
    if count[0] == "exactly":
        return repeated(count[1], lengths)
    if count[0] == "counted":
        found = set()
        for number in range(count[2], count[3] + 1):
            found |= sums({WORD_BYTES[count[1]]}, repeated(number, lengths))
        return found
    found = set()
    for number in range(count[1] + 1):
        found |= sums(repeated(number, sums({1}, lengths)), {1})
    return found


def item_lengths(item):
    kind = item[0]
    if kind == "word":
        return {WORD_BYTES[item[1]]}
    if kind == "array":
        return counted_lengths(item[4], {WORD_BYTES[item[2]]})
    if kind == "list":
        return counted_lengths(item[2], all_lengths(item[3]))
    if kind == "choice":
        found = set()
        for _, _, items in item[3]:
            found |= sums({WORD_BYTES[item[2]]}, all_lengths(items))
        return found
    if kind == "record":
        return all_lengths(item[2])
    return {{"literal": lambda: len(item[1]), "reserved": lambda: item[1], "check": lambda: 1}[kind]()}


def all_lengths(layout):
    """The numbers of bytes of all messages of a layout, found one by one."""
    found = {0}
    for item in layout:
        found = sums(found, item_lengths(item))
    return found


class MembersTest(unittest.TestCase):
    def test_a_layout_without_items_has_no_members(self):
        self.assertEqual(members(()), ())

    def test_items_without_members(self):
        layout = (("literal", (126, 0)), ("reserved", 60), FREE, ("check", "sum"), ("check", "xor"))
        self.assertEqual(members(layout), ())

    def test_a_word_has_an_integer_for_each_part_with_a_name_in_order(self):
        self.assertEqual(members((BITS,)), (("mode", "integer"), ("ok", "integer")))
        word = ("word", "u16le", (
            ("x", 5, True, None, None),
            ("y", 3, False, ((1, 1), (5, 6)), 5),
            (None, 4, False, None, None),
            ("z", 4, False, None, None),
        ))
        self.assertEqual(members((word,)), (("x", "integer"), ("y", "integer"), ("z", "integer")))

    def test_each_kind_of_member(self):
        self.assertEqual(members((U8_A,)), (("a", "integer"),))
        self.assertEqual(members((array("u8", ("exactly", 1)),)), (("t", "array"),))
        self.assertEqual(members((("list", "l", ("marked", 1), (U8_A,)),)), (("l", "list"),))
        self.assertEqual(members((optional(),)), (("o", "choice"),))
        self.assertEqual(members((("record", "r", ()),)), (("r", "record"),))

    def test_each_kind_of_count_gives_the_same_kind_of_member(self):
        for count in [("exactly", 3), ("counted", "u16le", 0, 3), ("marked", 3)]:
            with self.subTest(count=count):
                self.assertEqual(members((array("u32be", count),)), (("t", "array"),))
                self.assertEqual(members((("list", "l", count, (U8_A,)),)), (("l", "list"),))

    def test_members_are_in_the_order_of_the_items(self):
        layout = (
            ("literal", (1,)),
            ("record", "z", (U8_A,)),
            U32_B,
            ("reserved", 2),
            optional("c"),
            BITS,
            ("list", "l", ("exactly", 2), (U8_A,)),
            array("u8", ("marked", 4), "a"),
            ("check", "xor"),
        )
        names = [("z", "record"), ("b", "integer"), ("c", "choice"), ("mode", "integer"), ("ok", "integer"),
                 ("l", "list"), ("a", "array")]
        self.assertEqual(members(layout), tuple(names))
        turned = members(layout[::-1])
        self.assertEqual([name for name, _ in turned], ["a", "l", "mode", "ok", "c", "b", "z"])

    def test_members_inside_of_others_belong_to_other_scopes(self):
        inner = (U8_A, ("record", "r", (U8_A,)), ("list", "l", ("marked", 1), (U8_A,)))
        layout = (
            U8_A,
            ("record", "r", inner),
            ("list", "l", ("marked", 2), inner),
            ("choice", "c", "u8", ((0, "a", inner), (1, "r", inner))),
        )
        self.assertEqual(members(layout), (("a", "integer"), ("r", "record"), ("l", "list"), ("c", "choice")))
        self.assertEqual(members(inner), (("a", "integer"), ("r", "record"), ("l", "list")))

    def test_names_may_be_words_of_texts_and_kinds(self):
        layout = (array("u8", ("exactly", 1), "word"), ("record", "list", ()), optional("check"))
        self.assertEqual(members(layout), (("word", "array"), ("list", "record"), ("check", "choice")))

    def test_the_result_is_a_tuple_of_pairs(self):
        result = members((BITS, optional()))
        self.assertIs(type(result), tuple)
        self.assertEqual([type(pair) for pair in result], [tuple, tuple, tuple])

    def test_a_layout_with_a_thousand_items(self):
        layout = tuple([("record", f"r{number}", ()) for number in range(1000)])
        self.assertEqual(members(layout), tuple([(f"r{number}", "record") for number in range(1000)]))
        self.assertEqual(sizes(layout), (0, 0))


class SizesTest(unittest.TestCase):
    def assert_sizes(self, item, least, greatest):
        self.assertEqual(sizes((item,)), (least, greatest))

    def test_a_layout_without_items_has_one_message_without_bytes(self):
        self.assertEqual(sizes(()), (0, 0))

    def test_a_word_has_its_size_whatever_its_parts_are(self):
        self.assert_sizes(BITS, 1, 1)
        self.assert_sizes(FREE, 2, 2)
        for word, size in WORD_BYTES.items():
            with self.subTest(word=word):
                self.assert_sizes(("word", word, (("x", 8 * size, True, None, None),)), size, size)

    def test_fixed_items(self):
        self.assert_sizes(("literal", (0,)), 1, 1)
        self.assert_sizes(("literal", (126, 126, 0, 255)), 4, 4)
        self.assert_sizes(("reserved", 1), 1, 1)
        self.assert_sizes(("reserved", 60), 60, 60)
        self.assert_sizes(("check", "sum"), 1, 1)
        self.assert_sizes(("check", "xor"), 1, 1)

    def test_exactly_so_many_elements(self):
        for word, size in WORD_BYTES.items():
            for number in [1, 2, 60]:
                with self.subTest(word=word, number=number):
                    self.assert_sizes(array(word, ("exactly", number)), number * size, number * size)
        self.assert_sizes(("list", "l", ("exactly", 1), (optional(),)), 1, 5)
        self.assert_sizes(("list", "l", ("exactly", 60), (optional(),)), 60, 300)

    def test_counted_elements(self):
        for word, size in WORD_BYTES.items():
            with self.subTest(word=word):
                self.assert_sizes(array("u16be", ("counted", word, 0, 60)), size, size + 120)
                self.assert_sizes(array(word, ("counted", "u8", 0, 3)), 1, 1 + 3 * size)
        self.assert_sizes(array("u16be", ("counted", "u8", 0, 1)), 1, 3)
        self.assert_sizes(array("u16be", ("counted", "u8", 1, 1)), 3, 3)
        self.assert_sizes(array("u16be", ("counted", "u8", 2, 7)), 5, 15)
        self.assert_sizes(array("u16be", ("counted", "u8", 60, 60)), 121, 121)
        self.assert_sizes(("list", "l", ("counted", "u32le", 2, 3), (optional(),)), 6, 19)

    def test_marked_elements(self):
        for word, size in WORD_BYTES.items():
            for number in [1, 2, 60]:
                with self.subTest(word=word, number=number):
                    self.assert_sizes(array(word, ("marked", number)), 1, number * (1 + size) + 1)
        self.assert_sizes(("list", "l", ("marked", 1), (optional(),)), 1, 7)
        self.assert_sizes(("list", "l", ("marked", 3), (optional(), U8_A)), 1, 22)

    def test_a_choice_has_its_number_and_one_of_its_cases(self):
        self.assert_sizes(("choice", "c", "u8", ((0, "only", ()),)), 1, 1)
        self.assert_sizes(("choice", "c", "u32be", ((4294967295, "only", (U8_A,)),)), 5, 5)
        self.assert_sizes(optional(), 1, 5)
        for word, size in WORD_BYTES.items():
            cases = ((1, "long", (U32_B,)), (0, "short", (U8_A,)), (2, "middle", (FREE,)))
            with self.subTest(word=word):
                self.assert_sizes(("choice", "c", word, cases), size + 1, size + 4)

    def test_a_case_can_be_both_the_shortest_and_the_longest_one(self):
        wide = (array("u8", ("counted", "u8", 0, 9)),)
        cases = ((0, "wide", wide), (1, "narrow", (array("u8", ("exactly", 4)),)))
        self.assert_sizes(("choice", "c", "u8", cases), 2, 11)

    def test_a_record_has_the_bytes_of_its_items_alone(self):
        self.assert_sizes(("record", "r", ()), 0, 0)
        self.assert_sizes(("record", "r", (U8_A, optional(), ("check", "sum"))), 3, 7)
        self.assert_sizes(("record", "r", (("record", "r", (U32_B,)),)), 4, 4)

    def test_the_items_follow_one_another(self):
        layout = (("literal", (126,)), BITS, array("u16le", ("counted", "u8", 0, 2)), optional(), ("check", "sum"))
        self.assertEqual(sizes(layout), (5, 13))
        self.assertEqual(sizes((U8_A, U32_B, FREE)), (7, 7))

    def test_items_inside_of_one_another(self):
        leaf = ("list", "l", ("marked", 2), (U8_A, optional()))
        middle = ("choice", "c", "u16le", ((3, "deep", (leaf,)), (4, "flat", (("reserved", 3),))))
        self.assert_sizes(leaf, 1, 15)
        self.assert_sizes(middle, 3, 17)
        self.assert_sizes(("record", "r", (middle, U8_A)), 4, 18)
        self.assert_sizes(("list", "l", ("counted", "u8", 1, 2), (middle,)), 4, 35)
        self.assert_sizes(("list", "l", ("exactly", 3), (("list", "l", ("counted", "u8", 1, 2), (leaf,)),)), 6, 93)

    def test_sizes_beyond_the_bounds_are_told_without_an_error(self):
        deep = U8_A
        for _ in range(5):
            deep = ("list", "l", ("exactly", 60), (deep,))
        self.assertEqual(sizes((deep,)), (60 ** 5, 60 ** 5))

    def test_the_result_is_a_pair(self):
        self.assertIs(type(sizes(())), tuple)
        self.assertIs(type(sizes((optional(),))), tuple)


class AllLengthsTest(unittest.TestCase):
    def test_the_sizes_are_those_of_a_shortest_and_a_longest_message(self):
        leaves = [U8_A, FREE, ("reserved", 3), optional(), ("record", "r", (U8_A, optional())),
                  array("u16be", ("counted", "u16le", 1, 3))]
        counts = [("exactly", 2), ("counted", "u8", 0, 2), ("counted", "u16be", 2, 2), ("counted", "u32le", 1, 3),
                  ("marked", 1), ("marked", 3)]
        for leaf in leaves:
            for outer in counts:
                for inner in counts:
                    nested = ("list", "l", outer, (("list", "l", inner, (leaf,)), leaf))
                    cases = ((0, "x", (nested,)), (1, "y", (leaf, leaf)))
                    layout = (("literal", (7, 7)), nested, ("choice", "c", "u16be", cases), ("check", "xor"))
                    lengths = all_lengths(layout)
                    with self.subTest(leaf=leaf, outer=outer, inner=inner):
                        self.assertEqual(sizes(layout), (min(lengths), max(lengths)))


class InterfaceExampleTest(unittest.TestCase):
    def test_the_examples_of_the_interface(self):
        off = (("array", "s", "u32le", False, ("exactly", 1), None, None),)
        mode = ("choice", "mode", "u16be", ((1, "on", ()), (7, "off", off)))
        self.assertEqual(members((mode, ("check", "xor"))), (("mode", "choice"),))
        self.assertEqual(sizes((mode, ("check", "xor"))), (3, 7))


if __name__ == "__main__":
    unittest.main()
