"""Tests of bytebridge.reports: points 48, 148 and 149, and its section of the interface."""

import unittest

from bridge_oracle import filled_paths, lost_paths, narrowed_paths
from bridge_samples import convertible_records, random_pairs
from bytebridge.linking import Bridge
from bytebridge.reports import filled, lost, narrowed
from samples import array, integer

ONE, TWO = ((1, 1),), ((2, 2),)
A, B, C = integer("u8", "a"), integer("u8", "b"), integer("u8", "c")
# The layouts of point 149.
SOURCE = (
    integer("u8", "id"),
    integer("u8", "version", False, ((3, 3),)),
    ("list", "log", ("counted", "u8", 0, 9), (integer("u8", "code"), integer("u16be", "time"))),
    ("choice", "mode", "u8", ((1, "on", (integer("u8", "level"),)), (2, "off", ()))),
)
TARGET = (
    integer("u16le", "id"),
    ("list", "log", ("counted", "u8", 0, 4), (
        integer("u8", "code", False, ((0, 99),)), integer("u8", "flag", False, None, 1))),
    ("choice", "mode", "u8", ((7, "off", ()), (8, "auto", ()))),
    integer("u8", "kind", False, None, 5),
)


def choice(name, *cases):
    return ("choice", name, "u8", tuple([(number, case, items) for number, (case, items) in enumerate(cases)]))


class ReportTest(unittest.TestCase):
    def assert_reports(self, source, target, narrow, gone, added):
        bridge = Bridge(source, target)
        self.assertEqual(narrowed(bridge), narrow)
        self.assertEqual(lost(bridge), gone)
        self.assertEqual(filled(bridge), added)


class AllReportsTest(ReportTest):
    def test_the_example_of_point_149(self):
        self.assert_reports(SOURCE, TARGET, ["log", "log[].code", "mode.on"], ["log[].time"], ["log[].flag", "kind"])
        converted = Bridge(SOURCE, TARGET).converted((9, 3, ((5, 300),), ("off", ())))
        self.assertEqual(converted, (9, ((5, 1),), ("off", ()), 5))

    def test_a_bridge_of_a_layout_with_itself(self):
        self.assert_reports(SOURCE, SOURCE, [], [], [])
        self.assert_reports((), (), [], [], [])

    def test_random_bridges(self):
        for source, target in random_pairs(15000, 400, 200):
            self.assert_reports(source, target, narrowed_paths(source, target),
                                lost_paths(source, target, convertible_records(source, target)),
                                filled_paths(source, target))

    def test_the_lists_are_new_each_time(self):
        bridge = Bridge(SOURCE, TARGET)
        for report in [narrowed, lost, filled]:
            before = report(bridge)
            report(bridge).append("x")
            self.assertEqual(report(bridge), before)


class NarrowedTest(ReportTest):
    def assert_narrowed(self, source, target, paths):
        self.assertEqual(narrowed(Bridge((source,), (target,))), paths)

    def test_integers(self):
        for source, target, narrow in [
            (integer("u16be", "a"), A, True), (A, integer("u16be", "a"), False),
            (A, integer("u8", "a", False, ((0, 254),)), True),
            (A, integer("u8", "a", False, ((0, 255),)), False), (integer("u8", "a", False, ((0, 255),)), A, False),
            (integer("u8", "a", False, ((1, 2), (4, 4))), integer("u8", "a", False, ((0, 2), (4, 9))), False),
            (integer("u8", "a", False, ((1, 4),)), integer("u8", "a", False, ((1, 2), (4, 4))), True),
            (integer("u8", "a", False, ((1, 2), (4, 5))), integer("u8", "a", False, ((1, 4),)), True),
            (integer("u8", "a", False, ((0, 3),)), integer("u8", "a", False, ((1, 3),)), True),
            (integer("u32be", "a", True), integer("u32le", "a", True), False),
            (integer("u8", "a", True), integer("u8", "a", True, ((-127, 127),)), True),
        ]:
            self.assert_narrowed(source, target, ["a"] if narrow else [])

    def test_arrays(self):
        def paths(source, target, source_ranges=None, target_ranges=None):
            bridge = Bridge((array("u8", "s", source, source_ranges),), (array("u8", "s", target, target_ranges),))
            return narrowed(bridge)

        self.assertEqual(paths(("marked", 3), ("counted", "u8", 0, 3)), [])
        self.assertEqual(paths(("marked", 3), ("counted", "u8", 1, 3)), ["s"])
        self.assertEqual(paths(("marked", 4), ("counted", "u8", 0, 3)), ["s"])
        self.assertEqual(paths(("exactly", 2), ("counted", "u8", 0, 3)), [])
        self.assertEqual(paths(("exactly", 2), ("exactly", 2), None, ONE), ["s[]"])
        self.assertEqual(paths(("marked", 2), ("exactly", 2), None, ONE), ["s", "s[]"])
        # Each is compared by itself, also if no element can be converted.
        self.assertEqual(paths(("marked", 2), ("marked", 2), ONE, TWO), ["s[]"])

    def test_cases_and_what_is_inside_of_them(self):
        source = choice("c", ("p", (integer("u16be", "a"),)), ("q", ()), ("r", (integer("u16be", "b"),)), ("s", (B,)))
        target = choice("c", ("r", (B,)), ("p", (A,)), ("z", ()))
        self.assert_narrowed(source, target, ["c.p.a", "c.q", "c.r.b", "c.s"])

    def test_members_that_are_not_matched_are_not_narrowed(self):
        self.assertEqual(narrowed(Bridge((integer("u32be", "a"), B), (B,))), [])

    def test_cases_of_which_no_record_is_convertible(self):
        source = choice("c", ("p", (integer("u8", "a", False, ONE), integer("u16be", "b"))), ("q", ()))
        target = choice("c", ("p", (integer("u8", "a", False, TWO), B)), ("q", ()))
        self.assert_narrowed(source, target, ["c.p.a", "c.p.b"])

    def test_the_order_of_the_source(self):
        a, b, c, d = [integer("u16be", name) for name in "abcd"]
        source = (b, ("record", "r", (d, a)), ("list", "l", ("marked", 3), (c, b)), a)
        a, b, c, d = [integer("u8", name) for name in "abcd"]
        target = (a, ("list", "l", ("marked", 2), (b, c)), ("record", "r", (a, d)), b)
        self.assertEqual(narrowed(Bridge(source, target)), ["b", "r.d", "r.a", "l", "l[].c", "l[].b", "a"])


class LostTest(ReportTest):
    def assert_lost(self, source, target, paths):
        self.assertEqual(lost(Bridge(source, target)), paths)

    def test_members_that_always_have_the_same_value(self):
        one = integer("u8", "z", False, ONE)
        self.assert_lost((one, A), (A,), [])
        self.assert_lost((array("u8", "s", ("exactly", 2), ONE), A), (A,), [])
        self.assert_lost((array("u8", "s", ("marked", 1), ONE), A), (A,), ["s"])
        self.assert_lost((array("u8", "s", ("exactly", 2)), A), (A,), ["s"])
        self.assert_lost((choice("c", ("p", (one,))), A), (A,), [])
        self.assert_lost((choice("c", ("p", ()), ("q", ())), A), (A,), ["c"])
        self.assert_lost((("record", "r", (one, ("record", "q", ()))), A), (A,), [])
        self.assert_lost((("record", "r", (one, B)), A), (A,), ["r"])
        self.assert_lost((("list", "l", ("exactly", 1), (("reserved", 2),)), A), (A,), [])

    def test_nothing_inside_of_a_lost_member_is_listed(self):
        self.assert_lost((("list", "l", ("marked", 2), (A, B)), ("record", "r", (A, B)), choice("c", ("p", (A,)))), (),
                         ["l", "r", "c"])

    def test_members_of_matched_lists_records_and_cases(self):
        source = (("list", "l", ("marked", 2), (A, B)), ("record", "r", (A, B)),
                  choice("c", ("p", (A, B)), ("q", (B,))))
        target = (choice("c", ("q", ()), ("p", (A,))), ("record", "r", (B,)), ("list", "l", ("marked", 2), (A,)))
        self.assert_lost(source, target, ["l[].b", "r.a", "c.p.b", "c.q.b"])

    def test_lists_of_which_no_element_can_be_converted(self):
        source = (("list", "l", ("marked", 2), (integer("u8", "a", False, ONE), B)),)
        target = (("list", "l", ("marked", 2), (integer("u8", "a", False, TWO),)),)
        self.assert_lost(source, target, [])
        self.assert_lost(source, (("list", "l", ("marked", 2), (A,)),), ["l[].b"])

    def test_cases_of_which_no_record_is_convertible(self):
        source = (choice("c", ("p", (integer("u8", "a", False, ONE), B)), ("q", (B,))),)
        target = (choice("c", ("p", (integer("u8", "a", False, TWO),)), ("q", ())),)
        self.assert_lost(source, target, ["c.q.b"])

    def test_members_of_different_cases_are_different_members(self):
        three, four = integer("u8", "level", False, ((3, 3),)), integer("u8", "level", False, ((4, 4),))
        source = (choice("mode", ("on", (three,)), ("off", (four,))),)
        target = (choice("mode", ("on", ()), ("off", ())),)
        self.assert_lost(source, target, [])
        source = (choice("mode", ("on", (integer("u8", "level"),)), ("off", (four,))),)
        self.assert_lost(source, target, ["mode.on.level"])

    def test_values_that_differ_only_where_nothing_can_be_converted(self):
        # The case q, in which b differs, cannot be converted, but the case p can.
        source = (choice("c", ("p", ()), ("q", (A,))), B)
        self.assert_lost(source, (choice("c", ("p", ())),), ["b"])


class FilledTest(ReportTest):
    def assert_filled(self, source, target, paths):
        self.assertEqual(filled(Bridge(source, target)), paths)

    def test_members_of_each_scope(self):
        new = integer("u8", "n", False, None, 1)
        source = (A, ("list", "l", ("marked", 2), (B,)), ("record", "r", (C,)), choice("c", ("p", ()), ("q", ())))
        target = (new, choice("c", ("q", (new,)), ("z", (new,)), ("p", (new,))), ("record", "r", (new, C)), A,
                  ("list", "l", ("marked", 2), (B, new)))
        self.assert_filled(source, target, ["n", "c.q.n", "c.p.n", "r.n", "l[].n"])

    def test_nothing_inside_of_a_filled_member_is_listed(self):
        new = integer("u8", "n", False, None, 1)
        target = (("list", "l", ("exactly", 1), (new,)), ("record", "r", (new,)), array("u8", "s", ("marked", 1)))
        self.assert_filled((), target, ["l", "r", "s"])

    def test_a_member_is_filled_even_if_nothing_contains_it(self):
        new = integer("u8", "n", False, None, 1)
        source = (choice("c", ("p", (integer("u8", "a", False, ONE),)), ("q", ())),
                  ("list", "l", ("marked", 1), (integer("u8", "a", False, ONE),)))
        target = (choice("c", ("p", (new, integer("u8", "a", False, TWO))), ("q", ())),
                  ("list", "l", ("marked", 1), (new, integer("u8", "a", False, TWO))))
        self.assert_filled(source, target, ["c.p.n", "l[].n"])


if __name__ == "__main__":
    unittest.main()
