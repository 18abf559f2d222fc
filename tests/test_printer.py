"""Tests of bytebridge.printer: points 227 and 228, and its section of the interface."""

import random
import unittest

from bytebridge.layouts import sizes
from bytebridge.printer import show_layout
from bytebridge.source import read_layout
from bytebridge.tokens import tokens_of
from samples import array, integer, random_layouts, with_defaults
from texts import Writer

WORDS = ["u8", "u16be", "u16le", "u32be", "u32le"]


def spaced(text):
    """The tokens of a text with the spaces and lines of point 227."""
    lines = []
    line = ""
    depth = 0
    for _, value, _ in tokens_of(text):
        if value == "}":
            depth -= 1
        if not line:
            line = "  " * depth
        elif not (value in (";", ",", ":", "[", "]", "..") or line.endswith("[") or line.endswith("..")):
            line += " "
        line += str(value)
        if value in (";", "{", "}"):
            lines.append(line + "\n")
            line = ""
        if value == "{":
            depth += 1
    return "".join(lines)


class PrinterTest(unittest.TestCase):
    def assert_printed(self, layout, *lines):
        text = "".join([line + "\n" for line in lines])
        self.assertEqual(show_layout(layout), text)
        self.assertEqual(read_layout(text), layout)
        self.assertEqual(spaced(text), text)

    def test_the_example_of_point_228(self):
        layout = read_layout("bits u16le { signed x: 5; y: 3 in 5..6, 1 default 5; _: 4; z: 4; } i16be s[u8 1..0x4]; "
                             "list n [marked 2]{reserved 1;}")
        self.assert_printed(layout, "bits u16le {", "  signed x: 5;", "  y: 3 in 1, 5..6 default 5;", "  _: 4;", "  z: 4;",
                            "}", "i16be s[u8 1..4];", "list n[marked 2] {", "  reserved 1;", "}")

    def test_the_empty_layout(self):
        self.assertEqual(show_layout(()), "")

    def test_integers(self):
        for word in WORDS:
            self.assert_printed((integer(word, "a"),), f"{word} a;")
            self.assert_printed((integer(word, "a", True),), f"i{word[1:]} a;")
            self.assert_printed((integer(word, "a", False, None, 0),), f"{word} a default 0;")
            self.assert_printed((integer(word, "a", True, None, -5),), f"i{word[1:]} a default -5;")
        self.assert_printed((integer("u8", "a", False, ((0, 255),)),), "u8 a in 0..255;")
        self.assert_printed((integer("u8", "a", False, ((3, 3),), 3),), "u8 a in 3 default 3;")
        self.assert_printed((integer("u8", "a", True, ((-128, -128), (-4, -2), (0, 0), (5, 6)), -3),),
                            "i8 a in -128, -4..-2, 0, 5..6 default -3;")
        self.assert_printed((integer("u32be", "in", False, None, 4294967295),), "u32be in default 4294967295;")

    def test_words_with_parts(self):
        self.assert_printed((("word", "u8", ((None, 8, False, None, None),)),), "bits u8 {", "  _: 8;", "}")
        self.assert_printed((("word", "u8", (("a", 4, False, None, None), ("b", 4, True, None, None))),),
                            "bits u8 {", "  a: 4;", "  signed b: 4;", "}")
        self.assert_printed((("word", "u32le", ((None, 1, False, None, None), ("a", 31, True, None, -7))),),
                            "bits u32le {", "  _: 1;", "  signed a: 31 default -7;", "}")
        self.assert_printed((("word", "u16be", (("signed", 8, False, ((1, 2),), 2), ("signed_", 8, True, ((-1, 0),), None))),),
                            "bits u16be {", "  signed: 8 in 1..2 default 2;", "  signed signed_: 8 in -1..0;", "}")
        self.assert_printed((("word", "u8", (("signed", 4, True, None, None), (None, 4, False, None, None))),),
                            "bits u8 {", "  signed signed: 4;", "  _: 4;", "}")

    def test_arrays_and_counts(self):
        self.assert_printed((array("u8", "a", ("exactly", 60)),), "u8 a[60];")
        self.assert_printed((array("u16le", "a", ("marked", 1), None, None, True),), "i16le a[marked 1];")
        for word in WORDS:
            self.assert_printed((array(word, "a", ("counted", "u8", 0, 1)),), f"{word} a[u8 0..1];")
            self.assert_printed((array("u8", "a", ("counted", word, 60, 60)),), f"u8 a[{word} 60..60];")
        self.assert_printed((array("u8", "a", ("exactly", 2), ((1, 3), (5, 5)), 5),), "u8 a[2] in 1..3, 5 default 5;")
        self.assert_printed((array("u32be", "a", ("marked", 2), None, -1, True),), "i32be a[marked 2] default -1;")

    def test_items_with_braces(self):
        a = integer("u8", "a")
        self.assert_printed((("record", "r", ()),), "record r {", "}")
        self.assert_printed((("record", "r", (a, ("record", "q", (a,)))),),
                            "record r {", "  u8 a;", "  record q {", "    u8 a;", "  }", "}")
        self.assert_printed((("list", "l", ("exactly", 2), (a,)), a), "list l[2] {", "  u8 a;", "}", "u8 a;")
        self.assert_printed((("list", "l", ("counted", "u16be", 0, 5), (("check", "sum"),)),),
                            "list l[u16be 0..5] {", "  check sum;", "}")
        self.assert_printed((("choice", "c", "u16le", ((65535, "on", (a,)), (0, "off", ()))),),
                            "choice c u16le {", "  65535 on {", "    u8 a;", "  }", "  0 off {", "  }", "}")

    def test_items_without_members(self):
        self.assert_printed((("literal", (0,)), ("literal", (255, 126, 0))), "literal 0;", "literal 255 126 0;")
        self.assert_printed((("reserved", 1), ("reserved", 60)), "reserved 1;", "reserved 60;")
        self.assert_printed((("check", "sum"), ("check", "xor")), "check sum;", "check xor;")

    def test_nested_three_deep(self):
        bits = ("word", "u8", (("x", 1, False, None, None), (None, 7, False, None, None)))
        inner = ("list", "l", ("marked", 2), (("choice", "c", "u8", ((1, "d", (("record", "r", (bits,)),)),)),))
        self.assert_printed((inner,), "list l[marked 2] {", "  choice c u8 {", "    1 d {", "      record r {",
                            "        bits u8 {", "          x: 1;", "          _: 7;", "        }", "      }", "    }", "  }", "}")

    def test_random_layouts(self):
        layouts = random_layouts(22700, 200, 10 ** 9) + random_layouts(22800, 100, 10 ** 30, True)
        for index, layout in enumerate(layouts):
            layout = with_defaults(random.Random(index), layout)
            text = show_layout(layout)
            self.assertEqual(spaced(text), text)
            if sizes(layout)[1] <= 400:
                self.assertEqual(read_layout(text), layout, text)
                self.assertEqual(show_layout(read_layout(Writer(index).text(layout))), text)


if __name__ == "__main__":
    unittest.main()
