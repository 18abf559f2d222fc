"""Tests of bytebridge.linking: points 48 and 140 to 147, and its section of the interface."""

import random
import unittest

from bridge_oracle import conversion, default_of, error_of, is_convertible
from bridge_samples import convertible_records, random_pairs
from bytebridge.errors import BridgeError, KindsDiffer, MissingDefault, NotConvertible, NothingConvertible
from bytebridge.linking import Bridge
from bytebridge.patterns import how_many, whole
from oracle import many_in, members_of, pattern_of, random_domain, records_in, whole_domain
from samples import array, integer, random_layouts

BYTE = ("bits", 0, 0)


def bits(*parts):
    """A word item of one byte or two; parts are names with widths, and free bits fill the rest."""
    named = tuple([(name, width, signed, None, None) for name, width, signed in parts])
    left = -sum(width for _, width, _ in parts) % 8
    free = ((None, left, False, None, None),) if left else ()
    size = (sum(width for _, width, _ in parts) + left) // 8
    return ("word", {1: "u8", 2: "u16be", 4: "u32be"}[size], free + named)


def listed(name, count, *items):
    return ("list", name, count, items)


def choice(name, *cases):
    return ("choice", name, "u8", tuple([(number, case, items) for number, (case, items) in enumerate(cases)]))


class LinkingTest(unittest.TestCase):
    def assert_raises(self, kind, path, source, target):
        with self.assertRaises(BridgeError) as caught:
            Bridge(source, target)
        self.assertIs(type(caught.exception), kind)
        if path is not None:
            self.assertEqual(caught.exception.path, path)


class ErrorTest(LinkingTest):
    def test_members_of_different_kinds(self):
        items = {
            "integer": integer("u8", "m", False, None, 1),
            "array": array("u8", "m", ("exactly", 1), None, 1),
            "list": listed("m", ("marked", 1), integer("u8", "a")),
            "choice": choice("m", ("x", ())),
            "record": ("record", "m", ()),
        }
        for kind, item in items.items():
            for other, target in items.items():
                if kind == other:
                    self.assertEqual(Bridge((item,), (target,)).convertible, whole((item,)))
                else:
                    self.assert_raises(KindsDiffer, "m", (item,), (target,))

    def test_integers_that_do_not_go_together(self):
        for source, target, together in [
            (("a", 8, False), ("a", 3, False), True), (("a", 3, False), ("a", 16, False), True),
            (("a", 8, True), ("a", 8, True), True), (("a", 8, True), ("a", 7, True), False),
            (("a", 7, True), ("a", 8, True), False), (("a", 8, True), ("a", 8, False), False),
            (("a", 8, False), ("a", 8, True), False), (("a", 1, False), ("a", 1, True), False),
        ]:
            if together:
                Bridge((bits(source),), (bits(target),))
            else:
                self.assert_raises(KindsDiffer, "a", (bits(source),), (bits(target),))

    def test_the_words_of_integers_may_differ(self):
        for source in ["u8", "u16be", "u16le", "u32be", "u32le"]:
            for target in ["u8", "u16be", "u16le", "u32be", "u32le"]:
                bridge = Bridge((integer(source, "a"),), (integer(target, "a"),))
                self.assertEqual(bridge.converted((255,)), (255,))
                if source[1:3] == target[1:3]:
                    bridge = Bridge((integer(source, "a", True),), (integer(target, "a", True),))
                    self.assertEqual(bridge.converted((-1,)), (-1,))
                else:
                    self.assert_raises(KindsDiffer, "a", (integer(source, "a", True),), (integer(target, "a", True),))

    def test_elements_of_arrays(self):
        count = ("marked", 2)
        self.assert_raises(KindsDiffer, "s[]", (array("u8", "s", count),), (array("u8", "s", count, None, None, True),))
        self.assert_raises(KindsDiffer, "s[]", (array("u8", "s", count, None, None, True),),
                           (array("u16be", "s", count, None, None, True),))
        Bridge((array("u8", "s", count),), (array("u32le", "s", count),))
        Bridge((array("u16be", "s", count, None, None, True),), (array("u16le", "s", count, None, None, True),))

    def test_members_without_a_default_value(self):
        for item in [integer("u8", "m"), array("u8", "m", ("exactly", 2)), array("u8", "m", ("counted", "u8", 1, 2)),
                     choice("m", ("x", ())), listed("m", ("exactly", 1), integer("u8", "a")),
                     listed("m", ("counted", "u8", 1, 2), integer("u8", "a", False, None, 1), integer("u8", "b")),
                     ("record", "m", (integer("u8", "a"),)), ("record", "m", (choice("c", ("x", ())),)),
                     ("record", "m", (("record", "q", (array("u8", "s", ("exactly", 1)),)),))]:
            self.assert_raises(MissingDefault, "m", (), (item,))
            self.assert_raises(MissingDefault, "r.m", (("record", "r", ()),), (("record", "r", (item,)),))

    def test_the_paths_of_errors_inside_of_members(self):
        bad = integer("u8", "z", True)
        good = integer("u8", "z")
        source = (listed("l", ("marked", 2), ("record", "r", (choice("c", ("p", ()), ("q", (good,))),))),)
        target = (listed("l", ("marked", 2), ("record", "r", (choice("c", ("q", (bad,)), ("p", ())),))),)
        self.assert_raises(KindsDiffer, "l[].r.c.q.z", source, target)
        choice_with_y = choice("c", ("q", (good, integer("u8", "y"))), ("p", ()))
        target = (listed("l", ("marked", 2), ("record", "r", (choice_with_y,))),)
        self.assert_raises(MissingDefault, "l[].r.c.q.y", source, target)
        source = (listed("l", ("marked", 2), array("u8", "s", ("exactly", 2))),)
        target = (listed("l", ("marked", 2), array("u8", "s", ("exactly", 2), None, None, True)),)
        self.assert_raises(KindsDiffer, "l[].s[]", source, target)

    def test_cases_that_only_one_layout_has_are_not_examined(self):
        source = (choice("c", ("p", (integer("u8", "z"),)), ("q", ())),)
        target = (choice("c", ("r", (integer("u8", "y"),)), ("q", ())),)
        self.assertEqual(Bridge(source, target).convertible, (("cases", (("q", ()),)),))

    def test_the_errors_come_in_the_order_of_the_target(self):
        a, b, c = integer("u8", "a"), integer("u8", "b"), integer("u8", "c")
        signed_a, signed_b = integer("u8", "a", True), integer("u8", "b", True)
        source = (a, b)
        self.assert_raises(KindsDiffer, "b", source, (signed_b, signed_a, c))
        self.assert_raises(KindsDiffer, "a", source, (signed_a, signed_b, c))
        self.assert_raises(MissingDefault, "c", source, (c, signed_a, signed_b))
        self.assert_raises(KindsDiffer, "a", source, (b, signed_a, c))

    def test_everything_inside_of_a_member_comes_before_the_next_one(self):
        a, signed_a = integer("u8", "a"), integer("u8", "a", True)
        inner = ("record", "r", (a,))
        source = (inner, a, listed("l", ("marked", 1), a), choice("c", ("p", (a,)), ("q", (a,))))
        record, other_list = ("record", "r", (signed_a,)), listed("l", ("marked", 1), signed_a)
        other_choice = choice("c", ("q", (signed_a,)), ("p", (signed_a,)))
        self.assert_raises(KindsDiffer, "r.a", source, (record, signed_a))
        self.assert_raises(KindsDiffer, "a", source, (signed_a, record))
        self.assert_raises(KindsDiffer, "l[].a", source, (other_list, record))
        # The cases are examined in the order of the target's choice.
        self.assert_raises(KindsDiffer, "c.q.a", source, (other_choice, signed_a))
        self.assert_raises(KindsDiffer, "c.p.a", source, (choice("c", ("p", (signed_a,)), ("q", (signed_a,))),))

    def test_nothing_convertible(self):
        one, two = ((1, 1),), ((2, 2),)
        a_one, a_two = integer("u8", "a", False, one), integer("u8", "a", False, two)
        for source, target in [
            (a_one, a_two),
            (array("u8", "s", ("exactly", 1)), array("u8", "s", ("exactly", 2))),
            (array("u8", "s", ("exactly", 1), one), array("u8", "s", ("exactly", 1), two)),
            (array("u8", "s", ("counted", "u8", 1, 2), one), array("u8", "s", ("marked", 2), two)),
            (array("u8", "s", ("marked", 2), one), array("u8", "s", ("counted", "u8", 1, 2), two)),
            (listed("l", ("marked", 2), integer("u8", "a")), listed("l", ("exactly", 3), integer("u8", "a"))),
            (listed("l", ("exactly", 2), a_one), listed("l", ("exactly", 2), a_two)),
            (choice("c", ("p", ())), choice("c", ("q", ()))),
            (choice("c", ("p", (a_one,))), choice("c", ("p", (a_two,)))),
            (("record", "r", (a_one,)), ("record", "r", (a_two,))),
        ]:
            self.assert_raises(NothingConvertible, None, (source,), (target,))
            # The other errors come first, also those of members behind.
            self.assert_raises(MissingDefault, "z", (source,), (target, integer("u8", "z")))
            self.assert_raises(KindsDiffer, "z", (source, integer("u8", "z")), (target, integer("u8", "z", True)))

    def test_what_is_left_out_does_not_matter(self):
        a, x = integer("u8", "a", False, ((1, 1),)), integer("u8", "x", False, ((1, 1),))
        source = (a, choice("c", ("p", (x,)), ("q", ())))
        target = (choice("c", ("p", (integer("u8", "x", False, ((2, 2),)),)), ("q", ())),)
        self.assertEqual(Bridge(source, target).convertible, (("bits", 255, 1), ("cases", (("q", ()),))))

    def test_random_layouts_with_faults(self):
        kinds = {"KindsDiffer": KindsDiffer, "MissingDefault": MissingDefault}
        seen = []
        for source, target in random_pairs(14300, 600, 300, faults=True):
            expected = error_of(source, target)
            if expected is not None:
                self.assert_raises(kinds[expected[0]], expected[1], source, target)
            elif not convertible_records(source, target):
                self.assert_raises(NothingConvertible, None, source, target)
                expected = ("NothingConvertible",)
            else:
                Bridge(source, target)
                expected = ("none",)
            seen.append(expected[0])
        for kind in [*kinds, "NothingConvertible", "none"]:
            self.assertGreater(seen.count(kind), 20, kind)


class DefaultTest(LinkingTest):
    def assert_default(self, item, value):
        bridge = Bridge((), (item,))
        self.assertEqual(bridge.converted(()), (value,))
        self.assertEqual(bridge.transferred(()), pattern_of((item,), [(value,)]))

    def test_integers(self):
        self.assert_default(integer("u8", "a", False, None, 0), 0)
        self.assert_default(integer("u32le", "a", True, None, -5), -5)
        self.assert_default(integer("u8", "a", False, ((1, 3), (7, 7)), 7), 7)

    def test_arrays(self):
        self.assert_default(array("u8", "s", ("exactly", 3), None, 4), (4, 4, 4))
        self.assert_default(array("u16be", "s", ("counted", "u8", 2, 5), None, -1, True), (-1, -1))
        self.assert_default(array("u8", "s", ("counted", "u8", 0, 5), None, 4), ())
        self.assert_default(array("u8", "s", ("counted", "u8", 0, 5)), ())
        self.assert_default(array("u8", "s", ("marked", 5), None, 4), ())
        self.assert_default(array("u8", "s", ("marked", 5)), ())

    def test_lists(self):
        good = (integer("u8", "a", False, None, 1), array("u8", "s", ("marked", 2)), ("record", "r", ()))
        bad = good + (integer("u8", "b"),)
        self.assert_default(listed("l", ("exactly", 2), *good), ((1, (), ()),) * 2)
        self.assert_default(listed("l", ("counted", "u8", 1, 2), *good), ((1, (), ()),))
        self.assert_default(listed("l", ("counted", "u8", 0, 2), *bad), ())
        self.assert_default(listed("l", ("marked", 2), *bad), ())
        self.assert_default(listed("l", ("exactly", 2), ("literal", (1,))), ((), ()))

    def test_records(self):
        self.assert_default(("record", "r", ()), ())
        self.assert_default(("record", "r", (("literal", (1,)), ("check", "sum"))), ())
        inner = ("record", "q", (listed("l", ("marked", 1), integer("u8", "b")), integer("u8", "c", False, None, 0)))
        self.assert_default(("record", "r", (integer("u8", "a", False, None, 3), inner)), (3, ((), 0)))

    def test_the_default_of_a_matched_member_is_not_used(self):
        source = (integer("u8", "a"), array("u8", "s", ("marked", 2)))
        target = (integer("u8", "a", False, None, 9), array("u8", "s", ("marked", 2), None, 9))
        bridge = Bridge(source, target)
        self.assertEqual(bridge.converted((1, (2, 3))), (1, (2, 3)))
        self.assertEqual(bridge.converted((1, ())), (1, ()))

    def test_defaults_of_the_source_are_not_used(self):
        self.assert_raises(MissingDefault, "a", (integer("u8", "b", False, None, 1),), (integer("u8", "a"),))

    def test_defaults_inside_of_matched_members(self):
        source = (listed("l", ("marked", 2), integer("u8", "a")), choice("c", ("p", ())), ("record", "r", ()))
        added = integer("u8", "d", False, None, 6)
        target = (listed("l", ("exactly", 2), added, integer("u8", "a")), choice("c", ("p", (added,))),
                  ("record", "r", (added,)))
        self.assertEqual(Bridge(source, target).converted((((1,), (2,)), ("p", ()), ())),
                         (((6, 1), (6, 2)), ("p", (6,)), (6,)))


class ConvertibleTest(LinkingTest):
    def assert_convertible(self, source, target, entry):
        self.assertEqual(Bridge((source,), (target,)).convertible, (entry,))

    def test_unsigned_integers_of_different_widths(self):
        for source, target, entry in [
            (16, 8, ("bits", 65280, 0)), (8, 16, BYTE), (8, 8, BYTE), (8, 1, ("bits", 254, 0)), (1, 8, BYTE),
            (16, 12, ("bits", 61440, 0)), (32, 31, ("bits", 2 ** 31, 0)), (31, 32, BYTE),
            (32, 1, ("bits", 2 ** 32 - 2, 0)), (3, 2, ("bits", 4, 0)),
        ]:
            words = {width: bits(("a", width, False)) for width in (1, 2, 3, 8, 12, 16)}
            words[31] = ("word", "u32le", (("a", 31, False, None, None), ("other", 1, False, None, 0)))
            words[32] = integer("u32be", "a")
            self.assertEqual(Bridge((words[source],), (words[target],)).convertible[0], entry)

    def test_ranges_of_either_layout(self):
        self.assert_convertible(integer("u16be", "a"), integer("u8", "a", False, ((1, 3),)), ("among", (1, 2, 3)))
        self.assert_convertible(integer("u16be", "a"), integer("u8", "a", False, ((4, 7),)), ("bits", 65532, 4))
        from_2_to_9 = integer("u8", "a", False, ((2, 9),))
        self.assert_convertible(from_2_to_9, integer("u16be", "a"), ("among", (2, 3, 4, 5, 6, 7, 8, 9)))
        self.assert_convertible(from_2_to_9, bits(("a", 3, False)), ("among", (2, 3, 4, 5, 6, 7)))
        self.assert_convertible(bits(("a", 3, False)), integer("u8", "a", False, ((5, 200),)), ("among", (5, 6, 7)))
        self.assert_convertible(integer("u8", "a", False, ((0, 4), (6, 9))), integer("u8", "a", False, ((3, 7),)),
                                ("among", (3, 4, 6, 7)))

    def test_signed_integers(self):
        self.assert_convertible(integer("u32be", "a", True), integer("u32le", "a", True), BYTE)
        self.assert_convertible(integer("u8", "a", True, ((-3, 1),)), integer("u8", "a", True, ((-1, 5),)),
                                ("among", (-1, 0, 1)))
        self.assert_convertible(integer("u8", "a", True), integer("u8", "a", True, ((-2, -1),)), ("bits", 254, 254))

    def test_numbers_of_elements(self):
        part = (BYTE,)
        for source, target, numbers in [
            (("marked", 9), ("counted", "u8", 2, 4), (2, 3, 4)), (("counted", "u16le", 1, 5), ("exactly", 3), (3,)),
            (("exactly", 3), ("marked", 3), (3,)), (("counted", "u8", 0, 5), ("counted", "u8", 4, 9), (4, 5)),
            (("marked", 2), ("counted", "u8", 0, 9), (0, 1, 2)), (("exactly", 60), ("exactly", 60), (60,)),
        ]:
            self.assert_convertible(array("u8", "s", source), array("u16be", "s", target),
                                    ("counts", numbers, part * numbers[-1]))
            self.assert_convertible(listed("l", source, integer("u8", "a")), listed("l", target, integer("u8", "a")),
                                    ("counts", numbers, (part,) * numbers[-1]))

    def test_only_no_elements_can_be_converted(self):
        one, two = ((1, 1),), ((2, 2),)
        self.assert_convertible(array("u8", "s", ("marked", 2), one), array("u8", "s", ("marked", 2), two),
                                ("counts", (0,), ()))
        self.assert_convertible(listed("l", ("counted", "u8", 0, 3), integer("u8", "a", False, one)),
                                listed("l", ("marked", 2), integer("u8", "a", False, two)), ("counts", (0,), ()))

    def test_cases(self):
        one, two = integer("u8", "a", False, ((1, 1),)), integer("u8", "a", False, ((2, 2),))
        source = choice("c", ("p", (one,)), ("q", ()), ("r", (one,)), ("s", (integer("u8", "n"),)))
        target = choice("c", ("s", ()), ("p", (two,)), ("r", (one,)))
        self.assert_convertible(source, target, ("cases", (("r", (("bits", 255, 1),)), ("s", (BYTE,)))))

    def test_members_in_another_order_and_free_bits(self):
        source = (bits(("a", 3, False), ("b", 2, True)), ("literal", (1,)), integer("u8", "c", False, ((1, 3),)))
        target = (integer("u16le", "c"), ("reserved", 3), integer("u8", "a", False, ((0, 1),)))
        self.assertEqual(Bridge(source, target).convertible, (("bits", 6, 0), BYTE, ("among", (1, 2, 3))))

    def test_random_bridges(self):
        for source, target in random_pairs(14600, 250, 200):
            bridge = Bridge(source, target)
            self.assertEqual((bridge.source, bridge.target), (source, target))
            records = records_in(source, whole_domain(source))
            left = [record for record in records if is_convertible(source, target, record)]
            self.assertEqual(bridge.convertible, pattern_of(source, left), (source, target))
            self.assertEqual(how_many(source, bridge.convertible), len(left), (source, target))
            for record in records[:100]:
                expected = is_convertible(source, target, record)
                self.assertIs(bridge.is_convertible(record), expected, (source, target, record))
                if expected:
                    self.assertEqual(bridge.converted(record), conversion(source, target, record))
                else:
                    with self.assertRaises(NotConvertible):
                        bridge.converted(record)

    def test_a_bridge_of_a_layout_with_itself(self):
        for layout in random_layouts(14700, 100, 200):
            bridge = Bridge(layout, layout)
            self.assertEqual(bridge.convertible, whole(layout))
            self.assertEqual(bridge.transferred(whole(layout)), whole(layout))
            for record in records_in(layout, whole_domain(layout))[:30]:
                self.assertIs(bridge.is_convertible(record), True)
                self.assertEqual(bridge.converted(record), record)

    def test_layouts_without_items_and_without_members(self):
        for source in [(), (("literal", (1,)),), (integer("u8", "a"),)]:
            bridge = Bridge(source, ())
            self.assertEqual(bridge.convertible, whole(source))
            self.assertEqual(bridge.transferred(whole(source)), ())
        self.assertEqual(Bridge((), (("reserved", 1),)).converted(()), ())
        self.assertIs(Bridge((), ()).is_convertible(()), True)


class TransferredTest(LinkingTest):
    def test_integers_in_other_widths(self):
        for source, target, entry, expected in [
            (16, 8, ("bits", 65535, 2), ("bits", 255, 2)), (16, 8, ("bits", 65280, 0), BYTE),
            (16, 8, ("bits", 65281, 1), ("bits", 1, 1)), (8, 16, BYTE, ("bits", 65280, 0)),
            (8, 16, ("bits", 129, 128), ("bits", 65409, 128)), (8, 16, ("among", (1, 2, 4)), ("among", (1, 2, 4))),
            (16, 12, ("among", (1, 4095)), ("among", (1, 4095))), (12, 16, ("bits", 4095, 0), ("bits", 65535, 0)),
            (16, 16, ("bits", 1, 1), ("bits", 1, 1)),
        ]:
            bridge = Bridge((bits(("a", source, False)),), (bits(("a", target, False)),))
            self.assertEqual(bridge.transferred((entry,)), (expected,))

    def test_signed_integers_keep_their_sets(self):
        bridge = Bridge((integer("u16be", "a", True),), (integer("u16le", "a", True),))
        for entry in [("bits", 65535, 65534), ("among", (-1, 0, 700)), BYTE]:
            self.assertEqual(bridge.transferred((entry,)), (entry,))

    def test_cases_are_in_the_order_of_the_target(self):
        source = (choice("c", ("p", (integer("u8", "a"),)), ("q", ()), ("r", ())),)
        added = integer("u8", "d", False, None, 3)
        target = (choice("c", ("r", ()), ("z", ()), ("p", (integer("u16be", "a"), added))),)
        bridge = Bridge(source, target)
        self.assertEqual(bridge.transferred((("cases", (("p", (BYTE,)), ("r", ()))),)),
                         (("cases", (("r", ()), ("p", (("bits", 65280, 0), ("bits", 255, 3))))),))
        self.assertEqual(bridge.transferred((("cases", (("p", (BYTE,)),)),)),
                         (("cases", (("p", (("bits", 65280, 0), ("bits", 255, 3))),)),))

    def test_elements_with_different_entries(self):
        bridge = Bridge((array("u16be", "s", ("marked", 4)),), (array("u8", "s", ("counted", "u8", 0, 9)),))
        entries = (("bits", 65535, 1), ("bits", 65535, 1), ("bits", 65280, 0), ("among", (1, 2, 4)))
        self.assertEqual(bridge.transferred((("counts", (2, 4), entries),)),
                         (("counts", (2, 4), (("bits", 255, 1), ("bits", 255, 1), BYTE, ("among", (1, 2, 4)))),))

    def test_random_sets_of_records(self):
        rng = random.Random(147)
        for source, target in random_pairs(14800, 200, 200):
            bridge = Bridge(source, target)
            for _ in range(4):
                records = records_in(source, random_domain(rng, whole_domain(source), source))
                records = [record for record in records if is_convertible(source, target, record)]
                if records:
                    converted = [conversion(source, target, record) for record in records]
                    self.assertEqual(bridge.transferred(pattern_of(source, records)), pattern_of(target, converted))

    def test_a_bridge_never_changes(self):
        source = (integer("u8", "a"), array("u8", "s", ("marked", 2)))
        bridge = Bridge(source, source[::-1])
        before = (bridge.source, bridge.target, bridge.convertible)
        bridge.transferred(bridge.convertible)
        bridge.converted((1, (2,)))
        self.assertIs(bridge.is_convertible((1, ())), True)
        self.assertEqual((bridge.source, bridge.target, bridge.convertible), before)
        self.assertEqual(bridge.converted((1, (2,))), ((2,), 1))


class ExampleTest(LinkingTest):
    def test_the_examples_of_the_interface(self):
        wide = integer("u16be", "x")
        small = integer("u8", "x", False, ((1, 3),))
        bridge = Bridge((wide,), (small,))
        self.assertEqual(bridge.convertible, (("among", (1, 2, 3)),))
        self.assertEqual(bridge.converted((2,)), (2,))
        self.assertIs(bridge.is_convertible((258,)), False)
        with self.assertRaises(NotConvertible):
            bridge.converted((258,))
        self.assertEqual(bridge.transferred((("bits", 65535, 2),)), (("bits", 255, 2),))
        self.assert_raises(MissingDefault, "y", (small,), (wide, array("u8", "y", ("exactly", 2))))

    def test_the_oracle_of_default_values(self):
        # Random targets rely on it, so it is compared with the values that are written out above.
        for item, value in [(array("u8", "s", ("exactly", 2), None, 4), (4, 4)), (array("u8", "s", ("marked", 2)), ()),
                            (listed("l", ("exactly", 1), integer("u8", "a", False, None, 1)), ((1,),)),
                            (choice("c", ("x", ())), None), (("record", "r", (integer("u8", "a"),)), None)]:
            _, kind, described = members_of((item,))[0]
            self.assertEqual(default_of(kind, described), value)
        self.assertEqual(many_in((integer("u8", "a"),), whole_domain((integer("u8", "a"),))), 256)


if __name__ == "__main__":
    unittest.main()
