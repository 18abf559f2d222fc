"""Tests of bytebridge.views: points 47 and 240 to 243, and its section of the interface."""

import random
import unittest

from bytebridge.errors import BridgeError, InvalidMember, UnexpectedByte, UnexpectedEnd, UnknownField
from bytebridge.source import read_layout
from bytebridge.views import View
from oracle import (
    count_of, encoded, facts_about, field_of_array, integers_of, is_allowed, limits, many_in, members_of, records_in,
    whole_domain)
from samples import WIDE, random_layouts

BITS = "bits u8 { mode: 3; _: 4; ok: 1; } u16le t[u8 0..2]; check sum;"
DEEP = ("u8 n in 1..9; list l[marked 3] { choice c u8 { 1 on { i16be since; u8 s[u8 0..2] in 0..5; } 2 off { } } "
        "record r { bits u8 { signed a: 4 in -3..2; _: 2; b: 2; } } check xor; } check sum;")


def parity(data):
    found = 0
    for byte in data:
        found ^= byte
    return found


def with_checks(data):
    """A message of the layout DEEP with one element, given its bytes before the first check byte."""
    data = data + [parity(data), 0]
    return data + [sum(data) % 256]


def fields_of(layout, record, start=""):
    """Pairs of the path and the field of each integer of a record, in order."""
    found = []
    for (name, kind, item), value in zip(members_of(layout), record):
        path = start + name
        if kind == "integer":
            found.append((path, item))
        elif kind == "record":
            found += fields_of(item[2], value, path + ".")
        elif kind == "choice":
            items = {case: items for _, case, items in item[3]}
            found += fields_of(items[value[0]], value[1], path + ".value.")
        else:
            for index, part in enumerate(value):
                if kind == "array":
                    found.append((f"{path}[{index}]", field_of_array(item)))
                else:
                    found += fields_of(item[3], part, f"{path}[{index}].")
    return found


def changed(layout, record, target, number, start=""):
    """The record with another integer at the path target."""
    found = []
    for (name, kind, item), value in zip(members_of(layout), record):
        path = start + name
        if kind == "integer":
            value = number if path == target else value
        elif kind == "record":
            value = changed(item[2], value, target, number, path + ".")
        elif kind == "choice":
            items = {case: items for _, case, items in item[3]}
            value = (value[0], changed(items[value[0]], value[1], target, number, path + ".value."))
        elif kind == "array":
            value = tuple(number if f"{path}[{index}]" == target else part for index, part in enumerate(value))
        else:
            value = tuple(changed(item[3], part, target, number, f"{path}[{index}].")
                          for index, part in enumerate(value))
        found.append(value)
    return tuple(found)


def filled(layout, record, seed):
    """A message that stores the record; the free bits and reserved bytes depend on the seed only."""
    rng = random.Random(seed)
    return encoded(layout, record, lambda bits: rng.randrange(2 ** bits))


class ViewsTest(unittest.TestCase):
    def view(self, text, data):
        return View(read_layout(text), data)

    def assert_unknown(self, view, path):
        before = view.content
        with self.assertRaises(BridgeError) as caught:
            view[path]
        self.assertIs(type(caught.exception), UnknownField)
        self.assertEqual(caught.exception.path, path)
        for number in [0, 1, -1, 10 ** 12]:
            with self.assertRaises(BridgeError) as caught:
                view[path] = number
            self.assertIs(type(caught.exception), UnknownField)
            self.assertEqual(caught.exception.path, path)
        self.assertEqual(view.content, before)
        self.assertIs(path in view, False)

    def assert_invalid(self, view, path, number):
        before = view.content
        with self.assertRaises(BridgeError) as caught:
            view[path] = number
        self.assertIs(type(caught.exception), InvalidMember)
        self.assertEqual(caught.exception.path, path)
        self.assertEqual(view.content, before)


class ExampleTest(ViewsTest):
    def test_the_example_of_point_243(self):
        view = self.view(BITS, [191, 1, 2, 1, 195])
        self.assertEqual(list(view), ["mode", "ok", "t[0]"])
        self.assertEqual(view["t[0]"], 258)
        view["t[0]"] = 772
        self.assertEqual(view.content, [191, 1, 4, 3, 199])
        view["mode"] = 0
        self.assertEqual(view.content, [31, 1, 4, 3, 39])
        self.assertIsNone(view.poke(2, 6))
        self.assertEqual(view.content, [31, 1, 6, 3, 39])
        self.assertEqual(view["t[0]"], 774)
        view["ok"] = 0
        self.assertEqual(view.content, [30, 1, 6, 3, 40])

    def test_the_example_of_the_interface(self):
        view = self.view("u8 a; u16le t[u8 0..2] ; check sum;", [9, 1, 2, 1, 13])
        self.assertEqual(list(view), ["a", "t[0]"])
        self.assertEqual(view["t[0]"], 258)
        view["t[0]"] = 772
        self.assertEqual(view.content, [9, 1, 4, 3, 17])
        self.assert_unknown(view, "b")


class MakingTest(ViewsTest):
    def test_messages_that_are_none(self):
        for data, place in [([9, 3], 1), ([9, 1, 2, 1, 14], 4), ([9, 0, 9, 9], 3), ([9, 1, 2, 1, 13, 0], 5)]:
            with self.assertRaises(UnexpectedByte) as caught:
                self.view("u8 a; u16le t[u8 0..2]; check sum;", data)
            self.assertEqual(caught.exception.place, place)
        for data in [[], [9], [9, 1, 2, 1]]:
            with self.assertRaises(UnexpectedEnd):
                self.view("u8 a; u16le t[u8 0..2]; check sum;", data)
        with self.assertRaises(UnexpectedByte):
            self.view("", [0])

    def test_views_without_fields(self):
        for text, data in [("", []), ("literal 1 2; check sum;", [1, 2, 3]), ("bits u8 { _: 8; }", [77]),
                           ("u8 a[u8 0..2];", [0]), ("u8 a[marked 2];", [0]), ("choice c u8 { 5 x { } }", [5]),
                           ("record r { reserved 2; }", [3, 4]), ("list l[u8 0..1] { u8 a; }", [0])]:
            view = self.view(text, data)
            self.assertEqual(len(view), 0)
            self.assertEqual(list(view), [])
            self.assertEqual(view.content, data)
            for path in ["", "a", "a[0]", "a.length", "c", "c.case", "r", "l", "l.length"]:
                self.assert_unknown(view, path)


class FieldsTest(ViewsTest):
    def test_fields_in_lists_cases_records_and_bit_fields(self):
        view = self.view(DEEP, with_checks([5, 1, 1, 255, 254, 2, 3, 4, 0b11011101]))
        paths = ["n", "l[0].c.value.since", "l[0].c.value.s[0]", "l[0].c.value.s[1]", "l[0].r.a", "l[0].r.b"]
        self.assertEqual(list(view), paths)
        self.assertEqual(len(view), 6)
        self.assertEqual([view[path] for path in paths], [5, -2, 3, 4, -3, 1])
        self.assertTrue(all(path in view for path in paths))
        for path in ["", "l", "l.length", "l[0]", "l[1].r.a", "l[0].c", "l[0].c.case", "l[0].c.value", "l[0].c.value.s",
                     "l[0].c.value.s.length", "l[0].c.value.s[2]", "l[0].c.value.s[-1]", "l[].r.a", "l[0].r", "r.a",
                     "l[0].c.on.since", "l[00].r.a", "n ", "N", "_", "l[0].r.a.", "check"]:
            self.assert_unknown(view, path)

    def test_setting_fields(self):
        view = self.view(DEEP, with_checks([5, 1, 1, 255, 254, 2, 3, 4, 0b11011101]))
        view["l[0].r.a"] = 2
        self.assertEqual(view.content, with_checks([5, 1, 1, 255, 254, 2, 3, 4, 0b00101101]))
        self.assertEqual(view["l[0].r.a"], 2)
        self.assertEqual(view["l[0].r.b"], 1)
        view["l[0].c.value.since"] = -32768
        self.assertEqual(view.content[3:5], [128, 0])
        self.assertEqual(view["l[0].c.value.since"], -32768)
        view["n"] = 9
        self.assertEqual(view.content[0], 9)

    def test_integers_that_are_not_allowed(self):
        view = self.view(DEEP, with_checks([5, 1, 1, 255, 254, 2, 3, 4, 0b11011101]))
        for path, numbers in [("n", [0, 10, 255, -1, 256]), ("l[0].c.value.since", [32768, -32769, 10 ** 20]),
                              ("l[0].c.value.s[1]", [6, 255, -1]), ("l[0].r.a", [-4, 3, -8, 7]), ("l[0].r.b", [4, -1])]:
            for number in numbers:
                self.assert_invalid(view, path, number)
        for path, numbers in [("n", [1, 9]), ("l[0].c.value.since", [32767, -32768]), ("l[0].c.value.s[1]", [0, 5]),
                              ("l[0].r.a", [-3, 2]), ("l[0].r.b", [0, 3])]:
            for number in numbers:
                view[path] = number
                self.assertEqual(view[path], number)

    def test_words_in_both_byte_orders(self):
        for word, stored in [("u16be", [1, 2]), ("u16le", [2, 1]), ("u32be", [0, 0, 1, 2]), ("u32le", [2, 1, 0, 0])]:
            view = self.view(f"literal 9; {word} a; {word} s[2];", [9] + [0] * (3 * len(stored)))
            view["a"] = 258
            self.assertEqual(view.content, [9] + stored + [0] * (2 * len(stored)))
            view["s[1]"] = 258
            self.assertEqual(view.content, [9] + stored + [0] * len(stored) + stored)
            self.assertEqual([view[path] for path in view], [258, 0, 258])

    def test_marks_and_numbers_of_elements_have_their_place(self):
        view = self.view("u8 a[marked 3]; u8 b[u16be 0..3]; u8 c[2];", [1, 7, 1, 8, 0, 0, 1, 9, 5, 6])
        self.assertEqual({path: view[path] for path in view}, {"a[0]": 7, "a[1]": 8, "b[0]": 9, "c[0]": 5, "c[1]": 6})
        view["a[1]"] = 0
        view["b[0]"] = 1
        view["c[0]"] = 2
        self.assertEqual(view.content, [1, 7, 1, 0, 0, 0, 1, 1, 2, 6])

    def test_setting_the_same_integer_again_repairs_check_bytes(self):
        view = self.view("u8 a; check xor; u8 b; check sum;", [5, 5, 6, 16])
        view.poke(1, 99)
        view.poke(3, 1)
        self.assertEqual(view.content, [5, 99, 6, 1])
        view["b"] = 6
        self.assertEqual(view.content, [5, 5, 6, 16])

    def test_check_bytes_that_depend_on_earlier_ones(self):
        text = "u8 a; check sum; list l[2] { check xor; u8 b; check sum; } choice c u8 { 3 x { check sum; check xor; } } check sum;"
        data = [1, 1]
        for _ in range(2):
            data += [parity(data), 7]
            data.append(sum(data) % 256)
        data.append(3)
        data.append(sum(data) % 256)
        data.append(parity(data))
        data.append(sum(data) % 256)
        view = self.view(text, data)
        for path, number in [("a", 200), ("l[0].b", 100), ("l[1].b", 255), ("a", 0)]:
            view[path] = number
            fresh = self.view(text, view.content)
            self.assertEqual([fresh[name] for name in fresh], [view[name] for name in view])


class PokeTest(ViewsTest):
    def test_poking_changes_one_byte_only(self):
        data = [191, 1, 2, 1, 195]
        for place in range(5):
            for byte in [0, 1, 255]:
                view = self.view(BITS, data)
                self.assertIsNone(view.poke(place, byte))
                expected = list(data)
                expected[place] = byte
                self.assertEqual(view.content, expected)

    def test_getting_integers_that_are_not_allowed(self):
        view = self.view("u8 a in 1..3; bits u8 { signed b: 4 in -2..1; _: 4; } i16le c;", [2, 16, 0, 0])
        view.poke(0, 200)
        self.assertEqual(view["a"], 200)
        view.poke(1, 0b10011111)
        self.assertEqual(view["b"], -7)
        view.poke(3, 255)
        self.assertEqual(view["c"], -256)
        self.assert_invalid(view, "a", 200)
        view["b"] = -1
        self.assertEqual(view.content, [200, 0b11111111, 0, 255])

    def test_the_places_stay_the_same(self):
        # Marks, numbers of elements and of cases, literals: whatever is poked, no field moves.
        view = self.view("u8 n[u8 0..3]; u8 m[marked 2]; choice c u8 { 1 x { u8 a; } 2 y { } } literal 5; check sum;",
                         [1, 7, 1, 8, 0, 1, 9, 5, 32])
        before = list(view)
        for place, byte in [(0, 3), (2, 0), (4, 1), (5, 2), (7, 0), (8, 99)]:
            view.poke(place, byte)
        self.assertEqual(list(view), before)
        self.assertEqual([view[path] for path in view], [7, 8, 9])
        view["c.value.a"] = 10
        self.assertEqual(view.content, [3, 7, 0, 8, 1, 2, 10, 0, 31])

    def test_poked_bytes_count_in_check_bytes(self):
        view = self.view("reserved 1; u8 a; check sum;", [0, 5, 5])
        view.poke(0, 100)
        view["a"] = 6
        self.assertEqual(view.content, [100, 6, 106])


class ConventionsTest(ViewsTest):
    def test_what_is_passed_and_returned_is_not_kept(self):
        data = [9, 1, 2, 1, 13]
        view = self.view("u8 a; u16le t[u8 0..2]; check sum;", data)
        data[0] = 0
        data.append(3)
        self.assertEqual(view.content, [9, 1, 2, 1, 13])
        view.content.append(5)
        view.content[0] = 1
        list(view).append("b")
        self.assertEqual(view.content, [9, 1, 2, 1, 13])
        self.assertEqual(list(view), ["a", "t[0]"])
        view["a"] = 10
        self.assertEqual(data, [0, 1, 2, 1, 13, 3])

    def test_two_views_of_one_list(self):
        data = [9, 1, 2, 1, 13]
        first = self.view("u8 a; u16le t[u8 0..2]; check sum;", data)
        second = self.view("u8 a; u16le t[u8 0..2]; check sum;", data)
        first["a"] = 1
        second.poke(2, 7)
        self.assertEqual(first.content, [1, 1, 2, 1, 5])
        self.assertEqual(second.content, [9, 1, 7, 1, 13])
        self.assertEqual(data, [9, 1, 2, 1, 13])
        self.assertEqual((first["a"], second["a"]), (1, 9))

    def test_iterating_twice_and_while_setting(self):
        view = self.view("u8 a; u8 b; u8 c;", [1, 2, 3])
        self.assertEqual([(first, second) for first in view for second in view],
                         [(first, second) for first in "abc" for second in "abc"])
        for path in view:
            view[path] = view[path] + 10
        self.assertEqual(view.content, [11, 12, 13])
        self.assertIs("a" in view, True)


class RandomTest(ViewsTest):
    def test_random_messages(self):
        rng = random.Random(240)
        layouts = random_layouts(24000, 150, 3000) + random_layouts(24100, 60, 3000, True)
        for layout in layouts:
            if many_in(layout, whole_domain(layout, WIDE)) <= 3000:
                records = records_in(layout, whole_domain(layout, WIDE))
                for record in rng.sample(records, min(2, len(records))):
                    self.check(rng, layout, record)

    def check(self, rng, layout, record):
        seed = rng.random()
        view = View(layout, filled(layout, record, seed))
        fields = fields_of(layout, record)
        paths = [path for path, _ in fields]
        facts = facts_about(layout, record)
        self.assertEqual(list(view), paths)
        self.assertEqual(len(view), len(paths))
        self.assertEqual(paths, [path for path, _ in facts if not path.endswith((".length", ".case"))])
        self.assertEqual([(path, view[path]) for path in view], [fact for fact in facts if fact[0] in paths])
        for path, _ in facts:
            if path not in paths:
                self.assert_unknown(view, path)
        for path, field in rng.sample(fields, min(4, len(fields))):
            low, high = limits(field[0], field[1])
            for number in [low - 1, high + 1, rng.randint(low, high)]:
                if not is_allowed(field, number):
                    self.assert_invalid(view, path, number)
            number = rng.choice(integers_of(field, WIDE))
            record = changed(layout, record, path, number)
            view[path] = number
            self.assertEqual(view.content, filled(layout, record, seed), (layout, record, path))
            self.assertEqual(view[path], number)


if __name__ == "__main__":
    unittest.main()
