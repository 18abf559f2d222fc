"""Tests of bytebridge.source: points 42, 44, 45 and 220 to 226, and its section of the interface."""

import random
import unittest

from bytebridge.errors import (
    BitsLeft, BridgeError, CheckExpected, CountExpected, DefaultNotAllowed, DuplicateName, DuplicateNumber,
    EmptyElements, InvalidNumber, ItemExpected, MessageTooLong, NameExpected, NestedTooDeeply, NumberExpected,
    RangesNotAllowed, SymbolExpected, TextError, UnexpectedCharacter, WordExpected, WordTooLong)
from bytebridge.layouts import sizes
from bytebridge.source import read_layout
from oracle import BITS
from samples import array, integer, random_layouts, with_defaults
from texts import Writer

WORDS = ["u8", "u16be", "u16le", "u32be", "u32le"]
SIGNED = ["i8", "i16be", "i16le", "i32be", "i32le"]


def nested(depth, inner):
    """A text in which the inner text stands in so many records."""
    text = inner
    for index in range(depth):
        text = f"record r{index} {{ {text} }}"
    return text


class SourceTest(unittest.TestCase):
    def assert_error(self, text, kind, *attributes):
        """The character @ stands before the token that causes the error."""
        place = text.index("@")
        text = text.replace("@", "", 1)
        with self.assertRaises(BridgeError) as caught:
            read_layout(text)
        error = caught.exception
        self.assertIs(type(error), kind, text)
        self.assertIsInstance(error, TextError)
        self.assertEqual(error.place, place, text)
        if kind is NumberExpected:
            self.assertEqual((error.least, error.greatest), attributes, text)
        if kind is BitsLeft:
            self.assertEqual((error.bits,), attributes, text)
        if kind is SymbolExpected:
            self.assertEqual((error.symbol,), attributes, text)

    def assert_same(self, text, layout):
        self.assertEqual(read_layout(text), layout, text)


class MeaningTest(SourceTest):
    def test_the_example_of_point_222(self):
        self.assert_same("u16be t; i8 s[marked 2] in 5, 1..3, 4..4 default 2;", (
            ("word", "u16be", (("t", 16, False, None, None),)),
            ("array", "s", "u8", True, ("marked", 2), ((1, 5),), 2)))

    def test_the_empty_layout(self):
        for text in ["", " ", "\n\t\n"]:
            self.assert_same(text, ())

    def test_integers_of_all_kinds(self):
        for word, kind in zip(WORDS, SIGNED):
            self.assert_same(f"{word} a;", (integer(word, "a"),))
            self.assert_same(f"{kind} a;", (integer(word, "a", True),))
            self.assert_same(f"{word} a default 7;", (integer(word, "a", False, None, 7),))
            self.assert_same(f"{kind} a default -7;", (integer(word, "a", True, None, -7),))
            self.assert_same(f"{word} a[3] default 7;", (array(word, "a", ("exactly", 3), None, 7),))
            self.assert_same(f"{kind} a[3] default -7;", (array(word, "a", ("exactly", 3), None, -7, True),))
        self.assert_same("u8 a in 3;", (integer("u8", "a", False, ((3, 3),)),))
        self.assert_same("i8 a in -128..-3, 4 default -3;", (integer("u8", "a", True, ((-128, -3), (4, 4)), -3),))
        self.assert_same("u8 a in 0..255 default 0;", (integer("u8", "a", False, ((0, 255),), 0),))
        self.assert_same("u8 a[2] in 3..4 default 3;", (array("u8", "a", ("exactly", 2), ((3, 4),), 3),))

    def test_counts(self):
        self.assert_same("u8 a[1]; u8 b[60];", (array("u8", "a", ("exactly", 1)), array("u8", "b", ("exactly", 60))))
        self.assert_same("u8 a[marked 1]; u8 b[marked 60];",
                         (array("u8", "a", ("marked", 1)), array("u8", "b", ("marked", 60))))
        for word in WORDS:
            self.assert_same(f"u8 a[{word} 0..1];", (array("u8", "a", ("counted", word, 0, 1)),))
            self.assert_same(f"u8 a[{word} 60..60];", (array("u8", "a", ("counted", word, 60, 60)),))
            self.assert_same(f"list a[{word} 5..0x10]{{u8 b;}}",
                             (("list", "a", ("counted", word, 5, 16), (integer("u8", "b"),)),))

    def test_bits(self):
        self.assert_same("bits u16le { signed x: 5; y: 3; _: 4; z: 4; }", (("word", "u16le", (
            ("x", 5, True, None, None), ("y", 3, False, None, None), (None, 4, False, None, None),
            ("z", 4, False, None, None))),))
        self.assert_same("bits u8 { _: 8; }", (("word", "u8", ((None, 8, False, None, None),)),))
        self.assert_same("bits u8 { a: 8; }", (integer("u8", "a"),))
        self.assert_same("bits u32be { signed a: 32; }", (integer("u32be", "a", True),))
        self.assert_same("bits u8 { a: 3 in 1..2, 5 default 5; signed b: 5 in -16..-1 default -1; }", (("word", "u8", (
            ("a", 3, False, ((1, 2), (5, 5)), 5), ("b", 5, True, ((-16, -1),), -1))),))
        self.assert_same("bits u16be { a: 8 in 0..255; b: 8 default 255; }", (("word", "u16be", (
            ("a", 8, False, ((0, 255),), None), ("b", 8, False, None, 255))),))
        many = " ".join([f"b{index}: 1;" for index in range(32)])
        parts = tuple([(f"b{index}", 1, False, None, None) for index in range(32)])
        self.assert_same(f"bits u32le {{ {many} }}", (("word", "u32le", parts),))
        self.assert_same("bits u8 { _: 1; _: 2; _: 5; }", (("word", "u8", (
            (None, 1, False, None, None), (None, 2, False, None, None), (None, 5, False, None, None))),))

    def test_the_word_signed(self):
        self.assert_same("bits u8 { signed: 8; }", (integer("u8", "signed"),))
        self.assert_same("bits u8 { signed signed: 8; }", (integer("u8", "signed", True),))
        self.assert_same("bits u8 { signed u8: 3; signed: 5; }", (("word", "u8", (
            ("u8", 3, True, None, None), ("signed", 5, False, None, None))),))
        self.assert_same("u8 signed; i8 in;", (integer("u8", "signed"), integer("u8", "in", True)))

    def test_words_of_the_language_as_names(self):
        words = ["bits", "list", "choice", "record", "literal", "reserved", "check", "in", "default", "marked", "sum",
                 "xor", "signed"] + WORDS + SIGNED
        for word in words:
            self.assert_same(f"u8 {word};", (integer("u8", word),))
            self.assert_same(f"u8 {word}[2];", (array("u8", word, ("exactly", 2)),))
            self.assert_same(f"u8 {word} in 1 default 1;", (integer("u8", word, False, ((1, 1),), 1),))
            self.assert_same(f"bits u8 {{ {word}: 4; signed o_: 4; }}", (("word", "u8", (
                (word, 4, False, None, None), ("o_", 4, True, None, None))),))
            self.assert_same(f"list {word}[2] {{ u8 {word}; }}",
                             (("list", word, ("exactly", 2), (integer("u8", word),)),))
            self.assert_same(f"record {word} {{ }}", (("record", word, ()),))
            self.assert_same(f"choice {word} u8 {{ 1 {word} {{ u8 {word}; }} }}",
                             (("choice", word, "u8", ((1, word, (integer("u8", word),)),)),))

    def test_ranges_that_overlap_or_touch(self):
        for text, ranges in [
            ("1..3, 4..4, 5", ((1, 5),)), ("5, 1..3, 4..4", ((1, 5),)), ("1, 3", ((1, 1), (3, 3))),
            ("3, 1", ((1, 1), (3, 3))), ("1..9, 2..3", ((1, 9),)), ("2..3, 1..9", ((1, 9),)),
            ("1..5, 3..9", ((1, 9),)), ("3..9, 1..5", ((1, 9),)), ("7, 7, 7..7", ((7, 7),)),
            ("1..2, 4..5, 3", ((1, 5),)), ("0..100, 101..255", ((0, 255),)), ("0..100, 102..255", ((0, 100), (102, 255))),
            ("1..9, 3..4, 10..12, 20", ((1, 12), (20, 20))), ("9, 8, 7, 5, 4", ((4, 5), (7, 9))),
        ]:
            self.assert_same(f"u8 a in {text};", (integer("u8", "a", False, ranges),))
            self.assert_same(f"u8 a[1] in {text};", (array("u8", "a", ("exactly", 1), ranges),))
        self.assert_same("i8 a in 0..3, -5..-1, -128;", (integer("u8", "a", True, ((-128, -128), (-5, 3))),))
        self.assert_same("i8 a in -1, -3;", (integer("u8", "a", True, ((-3, -3), (-1, -1))),))

    def test_all_other_items(self):
        self.assert_same("literal 0 255 0x7E;", (("literal", (0, 255, 126)),))
        self.assert_same("literal 7;", (("literal", (7,)),))
        self.assert_same("reserved 1; reserved 60;", (("reserved", 1), ("reserved", 60)))
        self.assert_same("check sum; check xor;", (("check", "sum"), ("check", "xor")))
        self.assert_same("record r { }", (("record", "r", ()),))
        self.assert_same("record r{u8 a;check sum;record q{}}",
                         (("record", "r", (integer("u8", "a"), ("check", "sum"), ("record", "q", ()))),))
        self.assert_same("list l[2] { literal 1; }", (("list", "l", ("exactly", 2), (("literal", (1,)),)),))
        self.assert_same("choice c u16le { 7 off { } 65535 on { u8 a; } -0 x { literal 1; } }", (
            ("choice", "c", "u16le", ((7, "off", ()), (65535, "on", (integer("u8", "a"),)),
                                      (0, "x", (("literal", (1,)),)))),))
        for word in WORDS:
            greatest = 2 ** BITS[word] - 1
            self.assert_same(f"choice c {word} {{ {greatest} a {{ }} }}",
                             (("choice", "c", word, ((greatest, "a", ()),)),))

    def test_scopes(self):
        a = integer("u8", "a")
        self.assert_same("u8 a; list l[1] { u8 a; } record r { u8 a; } choice c u8 { 1 a { u8 a; } 2 b { u8 a; } }", (
            a, ("list", "l", ("exactly", 1), (a,)), ("record", "r", (a,)),
            ("choice", "c", "u8", ((1, "a", (a,)), (2, "b", (a,))))))
        self.assert_same("record r { u8 a; } u8 a;", (("record", "r", (a,)), a))
        self.assert_same("choice a u8 { 1 a { } }", (("choice", "a", "u8", ((1, "a", ()),)),))
        self.assert_same("u8 a; u8 A; u8 a_;", (a, integer("u8", "A"), integer("u8", "a_")))

    def test_nested_three_deep(self):
        b = integer("u8", "b")
        self.assert_same(nested(3, "u8 b;"), (("record", "r2", (("record", "r1", (("record", "r0", (b,)),)),)),))
        self.assert_same("choice c u8 { 1 x { list l[2] { record r { u8 b; } } } 2 y { record r { choice d u8 { 3 z { } } } } }", (
            ("choice", "c", "u8", (
                (1, "x", (("list", "l", ("exactly", 2), (("record", "r", (b,)),)),)),
                (2, "y", (("record", "r", (("choice", "d", "u8", ((3, "z", ()),)),)),)))),))

    def test_the_layouts_of_the_document(self):
        self.assert_same("bits u8 { mode: 3; _: 4; ok: 1; } u16le t[u8 0..2]; check sum;", (
            ("word", "u8", (("mode", 3, False, None, None), (None, 4, False, None, None), ("ok", 1, False, None, None))),
            array("u16le", "t", ("counted", "u8", 0, 2)), ("check", "sum")))
        self.assert_same("list r[marked 2] { u8 t; } choice c u8 { 1 on { u8 v in 3; } 2 off { } }", (
            ("list", "r", ("marked", 2), (integer("u8", "t"),)),
            ("choice", "c", "u8", ((1, "on", (integer("u8", "v", False, ((3, 3),)),)), (2, "off", ())))))

    def test_random_layouts_in_random_forms(self):
        for index, layout in enumerate(random_layouts(22000, 250, 10 ** 9) + random_layouts(22100, 100, 10 ** 30, True)):
            if sizes(layout)[1] <= 400:
                layout = with_defaults(random.Random(index), layout)
                self.assert_same(Writer(index).text(layout), layout)

    def test_a_text_of_2000_characters(self):
        text = " ".join([f"u8 name{index};" for index in range(150)])
        text += " " * (2000 - len(text))
        self.assertEqual(len(read_layout(text)), 150)
        text = "bits u8{" + "_:1;_:1;_:1;_:1;_:1;_:1;_:1;_:1;" + "}"
        self.assertEqual(len(read_layout(text * 40)), 40)

    def test_reading_twice_gives_equal_layouts(self):
        text = "u8 a; list l[2] { u8 b in 1..3; }"
        self.assertEqual(read_layout(text), read_layout(text))


class ErrorTest(SourceTest):
    def assert_errors_behind(self, start, kind, good, *attributes):
        """Each token causes the error behind the start, except those that are good there; so does the end."""
        tokens = ["u8", "i16be", "u16le", "name", "in", "default", "bits", "list", "signed", "marked", "sum", "check",
                  "5", "-1", "{", "}", "[", "]", ";", ":", ",", "..", "_", ""]
        for token in tokens:
            if token not in good:
                self.assert_error(f"{start} @{token}", kind, *attributes)
                if token:
                    self.assert_error(f"{start}\n\n@{token} ; }}", kind, *attributes)

    def test_the_examples_of_the_interface(self):
        self.assert_error("u8 a; u8 @a;", DuplicateName)
        self.assert_error("u8 a; bits u8 { @a: 8; }", DuplicateName)
        self.assert_error("u8 a in 3..@1;", NumberExpected, 3, 255)
        self.assert_error("bits u8 { a: 3; @}", BitsLeft, 5)

    def test_items(self):
        starts = ["u8", "i16be", "u16le", "bits", "list", "check"]
        for start in ["", "u8 a;", "u8 a[2];", "bits u8 { a: 8; }", "record r { }", "list l[1] { u8 a; }", "literal 1;",
                      "choice c u8 { 1 x { } }", "reserved 1;", "check sum;"]:
            self.assert_errors_behind(start, ItemExpected, starts + [""])
        for start in ["record r {", "list l[1] {", "list l[1] { u8 a;", "choice c u8 { 1 x {", "record r { record q { }",
                      "record r { record q {", "choice c u8 { 1 x { } 2 y { literal 1;"]:
            self.assert_errors_behind(start, ItemExpected, starts + ["}"])
        for token in ["u16", "U8", "i24be", "u8le", "Bits", "case", "literals", "u64be", "0"]:
            self.assert_error(f"@{token} a;", ItemExpected)
        self.assert_error("u8 a; @}", ItemExpected)
        self.assert_error("record r { } @}", ItemExpected)
        self.assert_error("u8 a;@;", ItemExpected)

    def test_names(self):
        words = ["u8", "i16be", "u16le", "name", "in", "default", "bits", "list", "signed", "marked", "sum", "check"]
        for start in ["u8", "i32le", "list", "choice", "record", "record r { u16be", "choice c u8 { 1",
                      "choice c u8 { 1 x { } 2", "bits u8 { signed", "bits u8 { a: 4; signed"]:
            self.assert_errors_behind(start, NameExpected, words + ([":"] if "signed" in start else []))
        # Behind signed a colon makes it the name.
        self.assert_error("bits u8 { signed: 4; signed @_: 4; }", NameExpected)
        self.assert_error("bits u8 { signed: 4; @signed: 4; }", DuplicateName)
        self.assert_error("bits u8 { signed signed: 4; signed @signed: 4; }", DuplicateName)
        self.assert_error("u8 @7;", NameExpected)

    def test_parts(self):
        words = ["u8", "i16be", "u16le", "name", "in", "default", "bits", "list", "signed", "marked", "sum", "check"]
        for start in ["bits u8 {", "bits u8 { a: 7;", "bits u32le { _: 31;", "bits u16be { a: 8; b: 7;"]:
            self.assert_errors_behind(start, NameExpected, words + ["_", "}"])
        for start in ["bits u8 { a: 8;", "bits u8 { _: 8;", "bits u16le { a: 8; b: 8;", "bits u8 { a: 8 in 1;"]:
            self.assert_errors_behind(start, SymbolExpected, ["}"], "}")

    def test_names_that_occur_before(self):
        for first in ["u8 a;", "i8 a[2];", "bits u8 { a: 8; }", "bits u8 { b: 7; signed a: 1; }", "record a { }",
                      "list a[2] { u8 b; }", "choice a u8 { 1 b { } }"]:
            for second in ["u8 @a;", "u16le @a[1];", "bits u8 { @a: 8; }", "bits u16be { c: 7; signed @a: 9; }",
                           "record @a { }", "list @a[2] { u8 b; }", "choice @a u8 { 1 b { } }"]:
                self.assert_error(f"{first} {second}", DuplicateName)
                self.assert_error(f"{first} u8 x; {second}", DuplicateName)
                self.assert_error(f"list l[1] {{ {first} {second} }}", DuplicateName)
                self.assert_error(f"record r {{ {first} literal 1; {second} }}", DuplicateName)
                self.assert_error(f"choice c u8 {{ 1 a {{ {first} {second} }} }}", DuplicateName)
        self.assert_error("bits u8 { a: 4; @a: 4; }", DuplicateName)
        self.assert_error("list l[1] { u8 a; } u8 @l;", DuplicateName)
        self.assert_error("choice c u8 { 1 a { } 2 @a { } }", DuplicateName)
        self.assert_error("choice c u8 { 1 a { } 2 b { } 3 @a { } }", DuplicateName)
        # The name comes before what follows it.
        self.assert_error("u8 a; u8 @a[0];", DuplicateName)
        self.assert_error("u8 a; choice @a u9 {", DuplicateName)

    def test_words(self):
        for start in ["bits", "choice c", "record r { bits", "list l[1] { choice c"]:
            self.assert_errors_behind(start, WordExpected, ["u8", "u16le"])
            for token in SIGNED + ["u16", "U8"]:
                self.assert_error(f"{start} @{token} {{", WordExpected)

    def test_counts(self):
        for start in ["u8 a[", "i8 a[", "list l[", "record r { u16be a["]:
            self.assert_errors_behind(start, CountExpected, ["u8", "u16le", "marked", "5", "-1"])
            for token in SIGNED + ["in", "u16"]:
                self.assert_error(f"{start}@{token} 1]", CountExpected)
            for number in ["0", "61", "-1", "4294967295"]:
                self.assert_error(f"{start}@{number}];", NumberExpected, 1, 60)
                self.assert_error(f"{start}marked @{number}];", NumberExpected, 1, 60)
            self.assert_errors_behind(f"{start} marked", NumberExpected, ["5"], 1, 60)
            self.assert_errors_behind(f"{start} 5", SymbolExpected, ["]"], "]")
            self.assert_errors_behind(f"{start} marked 60", SymbolExpected, ["]"], "]")
            self.assert_errors_behind(f"{start} u8 0..60", SymbolExpected, ["]"], "]")

    def test_counts_with_words(self):
        for start in ["u8 a[u8", "list l[u32be"]:
            self.assert_errors_behind(start, NumberExpected, ["5"], 0, 60)
            for number in ["-1", "61", "4294967295"]:
                self.assert_error(f"{start} @{number}..60];", NumberExpected, 0, 60)
            self.assert_errors_behind(f"{start} 0", SymbolExpected, [".."], "..")
            self.assert_errors_behind(f"{start} 60", SymbolExpected, [".."], "..")
            self.assert_errors_behind(f"{start} 0 ..", NumberExpected, ["5"], 1, 60)
            self.assert_errors_behind(f"{start} 4..", NumberExpected, ["5"], 4, 60)
            for least, greatest in [(0, 0), (0, -1), (0, 61), (1, 0), (2, 1), (60, 59), (60, 61), (7, 6)]:
                self.assert_error(f"{start} {least}..@{greatest}];", NumberExpected, max(1, least), 60)

    def test_brackets_and_clauses(self):
        for start in ["u8 a", "u16be a", "i8 a"]:
            self.assert_errors_behind(start, SymbolExpected, ["[", ";", "in", "default"], ";")
            self.assert_errors_behind(f"{start}[2]", SymbolExpected, [";", "in", "default"], ";")
        for start in ["u8 a in 1", "u8 a[2] in 1", "bits u8 { a: 8 in 1"]:
            self.assert_errors_behind(start, SymbolExpected, ["..", ",", "default", ";"], ";")
            self.assert_errors_behind(f"{start}..3", SymbolExpected, [",", "default", ";"], ";")
            self.assert_errors_behind(f"{start}, 3..5", SymbolExpected, [",", "default", ";"], ";")
            self.assert_errors_behind(f"{start} default 1", SymbolExpected, [";"], ";")
        for start in ["u8 a default 1", "u32le a[3] default 0", "bits u8 { a: 8 default 1"]:
            self.assert_errors_behind(start, SymbolExpected, [";"], ";")
        self.assert_error("u8 a default 1 @in 1;", SymbolExpected, ";")
        self.assert_error("u8 a in 1 @in 1;", SymbolExpected, ";")
        self.assert_error("u8 a default 1 @default 1;", SymbolExpected, ";")
        self.assert_error("u8 a[2]@[2];", SymbolExpected, ";")
        self.assert_error("u8 a@, b;", SymbolExpected, ";")

    def test_ranges(self):
        for start in ["u8 a in", "u8 a in 4,", "u8 a in 4..6,", "u8 a[2] in 4,", "bits u16be { a: 8 in"]:
            self.assert_errors_behind(start, NumberExpected, ["5"], 0, 255)
            self.assert_error(f"{start} @256", NumberExpected, 0, 255)
        self.assert_errors_behind("u8 a in 4 ..", NumberExpected, ["5"], 4, 255)
        self.assert_errors_behind("i8 a in 4 ..", NumberExpected, ["5"], 4, 127)
        self.assert_errors_behind("i8 a in", NumberExpected, ["5", "-1"], -128, 127)
        for number in [-129, 128, 255]:
            self.assert_error(f"i8 a in @{number};", NumberExpected, -128, 127)
        self.assert_error("i8 a in -3..@-4;", NumberExpected, -3, 127)
        self.assert_error("i8 a in -3..@128;", NumberExpected, -3, 127)
        self.assert_error("u8 a in 3..@256;", NumberExpected, 3, 255)
        self.assert_error("u8 a in 3..3, 4..@3;", NumberExpected, 4, 255)
        self.assert_error("bits u8 { a: 3 in @8; }", NumberExpected, 0, 7)
        self.assert_error("bits u8 { a: 3 in 7, 0..@8; }", NumberExpected, 0, 7)
        self.assert_error("bits u8 { signed a: 3 in @4; }", NumberExpected, -4, 3)
        self.assert_error("bits u8 { signed a: 3 in @-5; }", NumberExpected, -4, 3)
        self.assert_error("bits u8 { signed a: 1 in @1; }", NumberExpected, -1, 0)
        self.assert_error("bits u8 { a: 1 in 0..@2; }", NumberExpected, 0, 1)

    def test_fields_with_more_than_8_bits_have_no_ranges(self):
        for kind in WORDS[1:] + SIGNED[1:]:
            self.assert_error(f"{kind} a @in 1;", RangesNotAllowed)
            self.assert_error(f"{kind} a[2] @in 1;", RangesNotAllowed)
            self.assert_error(f"{kind} a @in", RangesNotAllowed)
        self.assert_error("bits u16be { a: 9 @in 1; }", RangesNotAllowed)
        self.assert_error("bits u32be { signed a: 32 @in 1; }", RangesNotAllowed)
        self.assert_same("bits u16be { signed a: 8 in 1; _: 8; }", (("word", "u16be", (
            ("a", 8, True, ((1, 1),), None), (None, 8, False, None, None))),))

    def test_defaults(self):
        for start, least, greatest in [
            ("u8 a", 0, 255), ("i8 a", -128, 127), ("u16le a", 0, 65535), ("i16be a[2]", -32768, 32767),
            ("u32be a", 0, 4294967295), ("i32le a", -2147483648, 2147483647), ("u8 a in 5", 0, 255),
            ("bits u8 { a: 3", 0, 7), ("bits u8 { signed a: 3", -4, 3), ("bits u32be { a: 20", 0, 1048575),
        ]:
            good = ["5"] if greatest >= 5 else []
            good += ["-1"] if least < 0 else []
            self.assert_errors_behind(f"{start} default", NumberExpected, good, least, greatest)
            for number in [least - 1, greatest + 1]:
                if abs(number) < 2 ** 32:
                    self.assert_error(f"{start} default @{number};", NumberExpected, least, greatest)
            if " in " not in start and "bits" not in start:
                for number in [least, greatest]:
                    read_layout(f"{start} default {number};")

    def test_defaults_that_are_not_allowed(self):
        for number in [0, 2, 5, 7, 255]:
            self.assert_error(f"u8 a in 1, 3..4, 6 default @{number};", DefaultNotAllowed)
            self.assert_error(f"u8 a[2] in 3..4, 1, 6 default @{number};", DefaultNotAllowed)
        for number in [1, 3, 4, 6]:
            read_layout(f"u8 a in 1, 3..4, 6 default {number};")
        self.assert_error("i8 a in -3..-1 default @0;", DefaultNotAllowed)
        self.assert_error("bits u8 { a: 8 in 5 default @6; }", DefaultNotAllowed)
        self.assert_error("bits u8 { a: 3 in 5 default @6", DefaultNotAllowed)
        self.assert_error("bits u8 { a: 3 in 5 default @8; }", NumberExpected, 0, 7)

    def test_widths(self):
        for word in WORDS:
            bits = BITS[word]
            for name in ["a", "signed a", "_", "signed"]:
                for number in [0, bits + 1, -1, 4294967295]:
                    self.assert_error(f"bits {word} {{ {name}: @{number}; }}", NumberExpected, 1, bits)
                    self.assert_error(f"bits {word} {{ b: 1; {name}: @{number}; }}", NumberExpected, 1, bits - 1)
                self.assert_error(f"bits {word} {{ b: {bits - 1}; {name}: @2; }}", NumberExpected, 1, 1)
                self.assert_errors_behind(f"bits {word} {{ {name}:", NumberExpected, ["5"], 1, bits)
        for start in ["bits u8 { a", "bits u8 { signed a", "bits u8 { _", "bits u8 { b: 4; a"]:
            self.assert_errors_behind(start, SymbolExpected, [":"], ":")
        self.assert_errors_behind("bits u8 { a: 4", SymbolExpected, ["in", "default", ";"], ";")
        self.assert_errors_behind("bits u8 { _: 4", SymbolExpected, [";"], ";")

    def test_bits_that_are_left(self):
        self.assert_error("bits u8 { @}", BitsLeft, 8)
        self.assert_error("bits u32le { @}", BitsLeft, 32)
        self.assert_error("bits u8 { a: 7; @}", BitsLeft, 1)
        self.assert_error("bits u16be { _: 3; signed a: 8; @}", BitsLeft, 5)

    def test_opening_braces(self):
        for start in ["bits u8", "record r", "list l[2]", "choice c u8", "choice c u8 { 1 a", "choice c u8 { 1 a { } 2 b",
                      "record r { record q { record p"]:
            self.assert_errors_behind(start, SymbolExpected, ["{"], "{")
        # Too deep is only what has been opened.
        self.assert_errors_behind("record r { record q { record p { record o", SymbolExpected, ["{"], "{")
        self.assert_errors_behind("list l", SymbolExpected, ["["], "[")

    def test_nested_too_deeply(self):
        for inner in ["record q @{ }", "list q[1] @{ u8 a; }", "choice q u8 @{ 1 a { } }", "list q[1] @{ }", "record q @{"]:
            self.assert_error(nested(3, inner), NestedTooDeeply)
            self.assert_error("choice c u8 { 1 x { list l[2] { u8 a; choice d u8 { 2 y { " + inner + "} } } } }",
                              NestedTooDeeply)
        # Cases and bits do not count.
        read_layout(nested(2, "choice c u8 { 1 a { bits u8 { b: 8; } } 2 d { } }"))
        read_layout(nested(3, "") + "record q { " + nested(2, "") + " }")

    def test_elements_of_no_bytes(self):
        for inner in ["", "record r { }", "record r { record q { } }"]:
            self.assert_error(f"@list l[2] {{ {inner} }}", EmptyElements)
            self.assert_error(f"u8 a; @list l[marked 2] {{ {inner} }} u8 a;", EmptyElements)
        self.assert_error("record s { @list l[u8 0..2] { }", EmptyElements)
        self.assert_error("@list l[marked 2] { record r { } } }", EmptyElements)
        self.assert_error("list o[1] { u8 a; @list l[1] { } }", EmptyElements)
        # What consists of at least one byte: numbers, marks and what is there at least once.
        for inner in ["u8 a;", "bits u8 { _: 8; }", "literal 0;", "reserved 1;", "check sum;", "u8 a[u8 0..1];",
                      "u8 a[marked 1];", "u8 a[1];", "choice c u8 { 1 x { } }", "list k[u8 0..1] { u8 a; }",
                      "list k[marked 1] { u8 a; }", "record r { u8 a[marked 1]; }"]:
            read_layout(f"list l[marked 2] {{ {inner} }}")
        # The error comes when the list has been read, not before.
        self.assert_error("list l[2] { @", ItemExpected)
        self.assert_error("list l[2] { @;", ItemExpected)

    def test_literals_and_reserved_bytes(self):
        self.assert_errors_behind("literal", NumberExpected, ["5"], 0, 255)
        self.assert_errors_behind("literal 0", NumberExpected, ["5", ";"], 0, 255)
        self.assert_errors_behind("literal 0 255", NumberExpected, ["5", ";"], 0, 255)
        for number in ["-1", "256", "0x100"]:
            self.assert_error(f"literal @{number};", NumberExpected, 0, 255)
            self.assert_error(f"literal 7 @{number};", NumberExpected, 0, 255)
        self.assert_errors_behind("reserved", NumberExpected, ["5"], 1, 60)
        for number in ["-1", "0", "61"]:
            self.assert_error(f"reserved @{number};", NumberExpected, 1, 60)
        self.assert_errors_behind("reserved 60", SymbolExpected, [";"], ";")

    def test_check_bytes(self):
        self.assert_errors_behind("check", CheckExpected, ["sum"])
        for token in ["sums", "Xor", "crc", "SUM"]:
            self.assert_error(f"check @{token};", CheckExpected)
        self.assert_errors_behind("check sum", SymbolExpected, [";"], ";")
        self.assert_errors_behind("check xor", SymbolExpected, [";"], ";")

    def test_cases(self):
        for word in WORDS:
            greatest = 2 ** BITS[word] - 1
            self.assert_errors_behind(f"choice c {word} {{", NumberExpected, ["5"], 0, greatest)
            self.assert_errors_behind(f"choice c {word} {{ 1 a {{ }}", NumberExpected, ["5", "}"], 0, greatest)
            for number in [-1, greatest + 1]:
                if number < 2 ** 32:
                    self.assert_error(f"choice c {word} {{ @{number} a {{ }} }}", NumberExpected, 0, greatest)
                    self.assert_error(f"choice c {word} {{ 1 a {{ }} @{number} a {{ }} }}", NumberExpected, 0, greatest)
        self.assert_error("choice c u8 { 1 a { } @1 b { } }", DuplicateNumber)
        self.assert_error("choice c u8 { 1 a { } 2 b { } @0x1 b { } }", DuplicateNumber)
        self.assert_error("choice c u8 { 0 a { } @-0 a { } }", DuplicateNumber)
        read_layout("choice c u8 { 1 a { choice d u8 { 1 a { } } } 2 b { choice d u8 { 1 a { } } } }")

    def test_tokens_come_first(self):
        self.assert_error("u8 u8 u8; @_x", UnexpectedCharacter)
        self.assert_error("u8 a; u8 a; @01", InvalidNumber)
        self.assert_error("} " + "@" + "a" * 21, WordTooLong)

    def test_the_end_of_the_text(self):
        text = "bits u8 { a: 3 in 1..2, 4 default 4; signed b: 5; } u8 s[u8 0..3]; list l[marked 2] { literal 1 2; } "
        text += "choice c u8 { 1 x { check sum; } 2 y { } } record r { reserved 3; }"
        layout = read_layout(text)
        whole = []
        for end in range(len(text)):
            part = text[:end]
            try:
                whole.append(read_layout(part))
            except TextError as error:
                # A word or a number that has been cut can be an error itself.
                self.assertIn(error.place, [len(part)] + list(range(part.rfind(" ") + 1, len(part))), part)
        for count, found in enumerate(sorted(set(whole), key=len)):
            self.assertEqual(found, layout[:count])
        self.assertEqual(len(set(whole)), 5)


class SizeTest(SourceTest):
    def assert_too_long(self, text, size):
        with self.assertRaises(BridgeError) as caught:
            read_layout(text)
        self.assertIs(type(caught.exception), MessageTooLong)
        self.assertNotIsInstance(caught.exception, TextError)
        self.assertEqual(caught.exception.size, size)

    def test_long_messages(self):
        self.assertEqual(sizes(read_layout("u32be a[50]; u32be b[50];")), (400, 400))
        self.assert_too_long("u32be a[50]; u32be b[50]; u8 c;", 401)
        self.assertEqual(sizes(read_layout("u32be a[marked 60]; u8 s[60]; reserved 39;")), (100, 400))
        self.assert_too_long("u32be a[marked 60]; u8 s[60]; reserved 40;", 401)
        self.assert_too_long("choice c u8 { 1 a { } 2 b { u8 x[60]; u32be y[60]; } 3 d { u32le y[60]; u32be z[60]; } }", 481)

    def test_astronomical_messages(self):
        text = "list a[60] { list b[marked 60] { list c[u8 0..60] { u32be d[60]; } } }"
        self.assert_too_long(text, 60 * (60 * (1 + 1 + 60 * 240) + 1))

    def test_errors_of_the_text_come_first(self):
        with self.assertRaises(ItemExpected):
            read_layout("u32be a[60]; u32be b[60]; }")
        with self.assertRaises(EmptyElements):
            read_layout("u32be a[60]; u32be b[60]; list l[1] { }")


if __name__ == "__main__":
    unittest.main()
