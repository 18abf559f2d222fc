"""Tests of bytebridge.writing: points 120 to 124, and its section of the interface."""

import random
import unittest

from bytebridge.errors import AlreadySet, BridgeError, InvalidMember, UnknownMember
from bytebridge.messages import write_message
from bytebridge.patterns import single, whole
from bytebridge.writing import Composer, blockers, determined
from oracle import common_start, encoded, many_in, members_of, pattern_of, random_domain, records_in, whole_domain
from samples import WIDE, array, integer, random_layouts

BYTE = ("bits", 0, 0)
# The layout of point 124.
FRAME = (
    ("literal", (126,)),
    ("word", "u8", (("version", 4, False, None, None), ("flags", 4, False, None, None))),
    integer("u16be", "size"),
    array("u8", "data", ("counted", "u8", 0, 4)),
    ("check", "xor"),
)


def sets_of_records(seed, many, wide):
    """Random layouts, each with the list of the records of a random independent set."""
    rng = random.Random(seed)
    found = []
    for layout in random_layouts(seed, many, 10 ** 6 if wide else 300, wide=wide):
        for _ in range(5):
            domain = random_domain(rng, whole_domain(layout, WIDE), layout)
            if many_in(layout, domain) <= 200:
                found.append((layout, records_in(layout, domain)))
    return found


def blockers_of(layout, records):
    """The blockers, from the messages of all records: point 122."""
    messages = [encoded(layout, record) for record in records]
    place = len(common_start(messages))
    if place == len(messages[0]):
        return []
    for number, item in enumerate(layout):
        first = len(message_of_items(layout, number, records[0]))
        behind = len(message_of_items(layout, number + 1, records[0]))
        if first <= place < behind:
            break
    if item[0] != "word":
        return [item[1]]
    before = len(members_of(layout[:number]))
    found = []
    for index, (name, _, _) in enumerate(members_of((item,))):
        alone = ((item[0], item[1], tuple([part if part[0] == name else (None,) + part[1:] for part in item[2]])),)
        stored = [encoded(alone, (record[before + index],))[place - first] for record in records]
        if len(set(stored)) > 1:
            found.append(name)
    return found


def message_of_items(layout, number, record):
    """The bytes of the first items of a layout."""
    return encoded(layout[:number], record[:len(members_of(layout[:number]))])


class DeterminedTest(unittest.TestCase):
    def assert_determined(self, layout, pattern, data, names):
        self.assertEqual(determined(layout, pattern), data)
        self.assertEqual(blockers(layout, pattern), names)

    def test_layouts_without_items_and_without_members(self):
        self.assert_determined((), (), [], [])
        layout = (("literal", (1, 2)), ("reserved", 2), ("check", "sum"))
        self.assert_determined(layout, (), [1, 2, 0, 0, 3], [])

    def test_words_in_both_byte_orders(self):
        for entry in [("bits", 65280, 256), ("among", (257, 258, 511))]:
            self.assert_determined((integer("u16be", "x"),), (entry,), [1], ["x"])
            self.assert_determined((integer("u16le", "x"),), (entry,), [], ["x"])
        self.assert_determined((integer("u16le", "x"),), (("bits", 255, 7),), [7], ["x"])
        self.assert_determined((integer("u16le", "x"),), (("bits", 65535, 258),), [2, 1], [])
        layout = (integer("u32be", "x"), ("literal", (9,)))
        self.assert_determined(layout, (("among", (258, 770)),), [0, 0], ["x"])
        self.assert_determined(layout, (("bits", 4294967040, 256),), [0, 0, 1], ["x"])

    def test_parts_that_share_bytes(self):
        parts = (("a", 3, False, None, None), ("b", 7, True, None, None), (None, 2, False, None, None),
                 ("c", 4, False, None, None))
        big = (("word", "u16be", parts),)
        small = (("word", "u16le", parts),)
        known = (("bits", 7, 5), ("bits", 127, 127), ("bits", 15, 6))
        self.assert_determined(big, known, [0b10111111, 0b11000110], [])
        self.assert_determined(small, known, [0b11000110, 0b10111111], [])
        # The low two bits of b are in another byte than the five high ones.
        low_open = (known[0], ("bits", 124, 124), known[2])
        self.assert_determined(big, low_open, [0b10111111], ["b"])
        self.assert_determined(small, low_open, [], ["b"])
        high_open = (known[0], ("bits", 3, 3), known[2])
        self.assert_determined(big, high_open, [], ["b"])
        self.assert_determined(small, high_open, [0b11000110], ["b"])
        self.assert_determined(big, (BYTE, BYTE, BYTE), [], ["a", "b"])
        self.assert_determined(small, (BYTE, BYTE, BYTE), [], ["b", "c"])
        self.assert_determined(big, (known[0], known[1], BYTE), [0b10111111], ["c"])
        self.assert_determined(small, (BYTE, known[1], known[2]), [0b11000110], ["a"])

    def test_integers_at_both_sides_of_0(self):
        layout = (integer("u16be", "x", True),)
        self.assert_determined(layout, (("among", (-1, 0)),), [], ["x"])
        self.assert_determined(layout, (("among", (-1, -256)),), [255], ["x"])
        self.assert_determined((integer("u8", "x", True, ((-1, 1),)),), (("bits", 255, 255),), [255], [])

    def test_a_number_of_elements_in_a_word(self):
        for word, data in [("u8", []), ("u16be", [0]), ("u16le", []), ("u32be", [0, 0, 0]), ("u32le", [])]:
            layout = (array("u8", "s", ("counted", word, 0, 2)), ("literal", (9,)))
            self.assert_determined(layout, whole(layout), data, ["s"])
        layout = (array("u8", "s", ("counted", "u16be", 1, 1), ((5, 6),)), ("literal", (9,)))
        self.assert_determined(layout, whole(layout), [0, 1], ["s"])
        layout = (array("u8", "s", ("counted", "u16be", 1, 1), ((5, 5),)), ("literal", (9,)))
        self.assert_determined(layout, whole(layout), [0, 1, 5, 9], [])

    def test_marks(self):
        layout = (array("u8", "s", ("marked", 3), ((5, 5),)), ("literal", (9,)))
        five = ("bits", 255, 5)
        for numbers, data in [((0,), [0, 9]), ((0, 1), []), ((1,), [1, 5, 0, 9]), ((1, 2), [1, 5]), ((1, 3), [1, 5]),
                              ((2, 3), [1, 5, 1, 5]), ((3,), [1, 5, 1, 5, 1, 5, 0, 9]), ((0, 3), [])]:
            pattern = (("counts", numbers, (five,) * numbers[-1]),)
            self.assert_determined(layout, pattern, data, ["s"] if data[-1:] != [9] else [])

    def test_a_mark_after_an_element_that_is_not_known(self):
        layout = (array("u8", "s", ("marked", 2)),)
        self.assert_determined(layout, (("counts", (2,), (BYTE, ("bits", 255, 1))),), [1], ["s"])
        self.assert_determined(layout, (("counts", (2,), (("bits", 255, 1), BYTE)),), [1, 1, 1], ["s"])

    def test_an_exact_number_of_elements(self):
        layout = (("list", "l", ("exactly", 2), (integer("u8", "a"), ("reserved", 1), integer("u16be", "b"))),)
        known = (("bits", 255, 3), ("bits", 65535, 258))
        self.assert_determined(layout, (("counts", (2,), (known, known)),), [3, 0, 1, 2, 3, 0, 1, 2], [])
        self.assert_determined(layout, (("counts", (2,), (known, (known[0], ("bits", 65280, 256)))),),
                               [3, 0, 1, 2, 3, 0, 1], ["l"])
        self.assert_determined(layout, (("counts", (2,), ((BYTE, BYTE), known)),), [], ["l"])

    def test_cases(self):
        cases = ((256, "a", (("literal", (7,)),)), (258, "b", (("literal", (7,)),)), (2, "c", ()))
        a, b, c = [(name, ()) for name in "abc"]
        big = (("choice", "c", "u16be", cases), ("literal", (9,)))
        small = (("choice", "c", "u16le", cases), ("literal", (9,)))
        self.assert_determined(big, (("cases", (a, b, c)),), [], ["c"])
        self.assert_determined(big, (("cases", (a, b)),), [1], ["c"])
        self.assert_determined(big, (("cases", (b,)),), [1, 2, 7, 9], [])
        self.assert_determined(big, (("cases", (c,)),), [0, 2, 9], [])
        self.assert_determined(small, (("cases", (a, b)),), [], ["c"])
        self.assert_determined(small, (("cases", (b, c)),), [2], ["c"])
        self.assert_determined(small, (("cases", (b,)),), [2, 1, 7, 9], [])

    def test_the_blocker_is_the_member_of_the_layout_itself(self):
        one_case = ("choice", "c", "u8", ((1, "x", (integer("u8", "a"),)),))
        inner = ("record", "q", (("list", "l", ("exactly", 1), (one_case,)),))
        layout = (integer("u8", "b"), ("record", "r", (("literal", (8,)), inner)))
        pattern = (("bits", 255, 3),) + whole(layout)[1:]
        self.assert_determined(layout, pattern, [3, 8, 1], ["r"])
        self.assert_determined(layout, whole(layout), [], ["b"])

    def test_check_bytes(self):
        layout = (("check", "sum"), integer("u8", "a"), ("check", "sum"), ("check", "xor"), ("reserved", 1),
                  ("record", "r", (("check", "sum"), integer("u8", "b"), ("check", "xor"))))
        known = ("bits", 255, 200)
        start = [0, 200, 200, 0, 0, 144]
        self.assert_determined(layout, (BYTE, (BYTE,)), [0], ["a"])
        self.assert_determined(layout, (known, (BYTE,)), start, ["r"])
        self.assert_determined(layout, (known, (known,)), start + [200, 144 ^ 200], [])

    def test_bytes_behind_the_first_one_that_is_not_determined(self):
        layout = (integer("u8", "a"), ("literal", (1, 2, 3)))
        self.assert_determined(layout, whole(layout), [], ["a"])

    def test_the_lists_are_new_each_time(self):
        layout = (("literal", (1,)), integer("u8", "a"))
        determined(layout, whole(layout)).append(2)
        blockers(layout, whole(layout)).append("b")
        self.assert_determined(layout, whole(layout), [1], ["a"])

    def test_random_sets(self):
        for layout, records in sets_of_records(12000, 200, False) + sets_of_records(12001, 100, True):
            pattern = pattern_of(layout, records)
            expected = common_start([encoded(layout, record) for record in records])
            self.assert_determined(layout, pattern, expected, blockers_of(layout, records))

    def test_one_record(self):
        for layout, records in sets_of_records(12100, 100, False) + sets_of_records(12101, 50, True):
            self.assert_determined(layout, single(layout, records[0]), encoded(layout, records[0]), [])


class ComposerTest(unittest.TestCase):
    def assert_refused(self, composer, name, value, kind, told):
        with self.assertRaises(kind) as caught:
            composer.put(name, value)
        self.assertIsInstance(caught.exception, BridgeError)
        self.assertEqual(vars(caught.exception), {"path" if kind is InvalidMember else "name": told})

    def test_the_example_of_point_124(self):
        composer = Composer(FRAME)
        self.assertEqual(composer.take(), [126])
        self.assertEqual(composer.blockers(), ["version", "flags"])
        self.assertIsNone(composer.put("size", 300))
        self.assertIsNone(composer.put("flags", 1))
        self.assertEqual(composer.blockers(), ["version"])
        self.assertEqual(composer.take(), [])
        composer.put("version", 2)
        self.assertEqual(composer.take(), [33, 1, 44])
        self.assertEqual(composer.blockers(), ["data"])
        self.assert_refused(composer, "data", (7, 256), InvalidMember, "data[1]")
        composer.put("data", (7,))
        self.assertEqual(composer.taken, [126, 33, 1, 44])
        self.assertEqual(composer.take(), [1, 7, 116])
        self.assertEqual(composer.blockers(), [])
        self.assertEqual(composer.taken, [126, 33, 1, 44, 1, 7, 116])
        self.assertEqual(composer.take(), [])

    def test_a_new_composer(self):
        self.assertEqual(Composer(FRAME).taken, [])
        self.assertEqual(Composer(()).take(), [])
        self.assertEqual(Composer(()).blockers(), [])
        self.assertEqual(Composer((integer("u8", "a"),)).take(), [])

    def test_the_errors_of_put_in_their_order(self):
        composer = Composer(FRAME)
        self.assert_refused(composer, "sizes", 300, UnknownMember, "sizes")
        self.assert_refused(composer, "", -1, UnknownMember, "")
        self.assert_refused(composer, "data[0]", 1, UnknownMember, "data[0]")
        self.assert_refused(composer, "size", 65536, InvalidMember, "size")
        self.assert_refused(composer, "size", -1, InvalidMember, "size")
        composer.put("size", 300)
        for value in [300, 65536, -1]:
            self.assert_refused(composer, "size", value, AlreadySet, "size")
        self.assert_refused(composer, "version", 16, InvalidMember, "version")
        composer.put("version", 15)
        self.assert_refused(composer, "version", 16, AlreadySet, "version")

    def test_members_inside_of_others_cannot_be_set(self):
        inner = (integer("u8", "a"),)
        one_case = ("choice", "c", "u8", ((1, "x", inner),))
        layout = (("list", "l", ("marked", 2), inner), one_case, ("record", "r", inner))
        composer = Composer(layout)
        for name in ["a", "x", "l[0].a", "c.value.a", "r.a"]:
            self.assert_refused(composer, name, 1, UnknownMember, name)

    def test_the_path_of_a_value_that_is_not_allowed(self):
        inner = (integer("u8", "a", False, ((1, 2),)), array("u8", "s", ("exactly", 1)))
        one_case = ("choice", "c", "u8", ((1, "x", inner),))
        layout = (("list", "l", ("marked", 2), inner), one_case, ("record", "r", inner))
        composer = Composer(layout)
        good = (1, (1,))
        for name, value, path in [
            ("l", (good, good, good), "l"), ("l", (good, (3, (1,))), "l[1].a"), ("l", (good, (2, (256,))), "l[1].s[0]"),
            ("c", ("y", good), "c"), ("c", ("x", (1, ())), "c.value.s"), ("r", (0, (1,)), "r.a"),
        ]:
            self.assert_refused(composer, name, value, InvalidMember, path)
        composer.put("r", good)
        composer.put("c", ("x", good))
        composer.put("l", (good,))
        self.assertEqual(composer.take(), [1, 1, 1, 0, 1, 1, 1, 1, 1])

    def test_a_call_that_raises_changes_nothing(self):
        composer = Composer(FRAME)
        composer.take()
        for name, value in [("nothing", 1), ("version", 16), ("data", (1, 2, 3, 4, 5)), ("data", (256,))]:
            with self.assertRaises(BridgeError):
                composer.put(name, value)
        self.assertEqual(composer.blockers(), ["version", "flags"])
        self.assertEqual(composer.taken, [126])
        composer.put("version", 1)
        with self.assertRaises(AlreadySet):
            composer.put("version", 2)
        composer.put("flags", 0)
        self.assertEqual(composer.take(), [16])

    def test_blockers_do_not_depend_on_what_has_been_taken(self):
        composer = Composer(FRAME)
        composer.put("flags", 0)
        self.assertEqual(composer.blockers(), ["version"])
        composer.put("version", 0)
        self.assertEqual(composer.blockers(), ["size"])
        self.assertEqual(composer.take(), [126, 0])
        self.assertEqual(composer.blockers(), ["size"])

    def test_members_that_are_known_before_they_are_set(self):
        layout = (integer("u8", "a", False, ((7, 7),)), integer("u8", "b"))
        composer = Composer(layout)
        self.assertEqual(composer.take(), [7])
        self.assert_refused(composer, "a", 8, InvalidMember, "a")
        composer.put("a", 7)
        self.assertEqual(composer.take(), [])
        self.assert_refused(composer, "a", 7, AlreadySet, "a")

    def test_what_is_returned_is_not_kept(self):
        composer = Composer(FRAME)
        composer.take().append(99)
        composer.taken.append(98)
        composer.blockers().append("size")
        self.assertEqual(composer.taken, [126])
        self.assertEqual(composer.blockers(), ["version", "flags"])
        self.assertEqual(composer.take(), [])

    def test_composers_do_not_know_of_one_another(self):
        first = Composer(FRAME)
        second = Composer(FRAME)
        first.put("version", 1)
        first.take()
        second.put("version", 2)
        second.put("flags", 0)
        self.assertEqual(second.take(), [126, 32])

    def test_random_orders(self):
        rng = random.Random(123)
        for layout in random_layouts(12300, 200, 200):
            records = records_in(layout, whole_domain(layout))
            record = rng.choice(records)
            members = list(enumerate(members_of(layout)))
            rng.shuffle(members)
            composer = Composer(layout)
            taken = []
            for place, (name, _, _) in members:
                if rng.random() < 0.7:
                    data = common_start([encoded(layout, record) for record in records])
                    self.assertEqual(composer.blockers(), blockers_of(layout, records))
                    self.assertEqual(composer.take(), data[len(taken):])
                    taken = data
                composer.put(name, record[place])
                records = [other for other in records if other[place] == record[place]]
                self.assertEqual(composer.taken, taken)
            self.assertEqual(taken + composer.take(), write_message(layout, record))
            self.assertEqual(composer.blockers(), [])


if __name__ == "__main__":
    unittest.main()
