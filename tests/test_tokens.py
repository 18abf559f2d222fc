"""Tests of bytebridge.tokens: points 220 and 223, and its section of the interface."""

import random
import re
import unittest

from bytebridge.errors import BridgeError, InvalidNumber, TextError, UnexpectedCharacter, WordTooLong
from bytebridge.tokens import tokens_of

WORD = re.compile(r"[A-Za-z][A-Za-z0-9_]*")
NUMBER = re.compile(r"-?[0-9][A-Za-z0-9_]*|-")
DECIMAL = re.compile(r"0|[1-9][0-9]*")
HEXADECIMAL = re.compile(r"0x[0-9A-Fa-f]{1,8}")
SYMBOL = re.compile(r"[{}\[\];:,]|\.\.|_(?![A-Za-z0-9_])")


def slow_tokens(text):
    """The tokens of a text, or a pair of the class of the error and its place: point 220 with regular expressions."""
    found = []
    place = 0
    while place < len(text):
        if text[place] in " \t\n":
            place += 1
            continue
        for kind, form in [("word", WORD), ("number", NUMBER), ("symbol", SYMBOL)]:
            match = form.match(text, place)
            if match:
                break
        else:
            return (UnexpectedCharacter, place)
        value = match.group()
        if kind == "word" and len(value) > 20:
            return (WordTooLong, place)
        if kind == "number":
            digits = value.lstrip("-")
            if DECIMAL.fullmatch(digits) and int(digits) < 2 ** 32:
                value = int(value)
            elif HEXADECIMAL.fullmatch(digits):
                value = int(value, 16)
            else:
                return (InvalidNumber, place)
        found.append((kind, value, place))
        place = match.end()
    return found


def values(text):
    return [value for _, value, _ in tokens_of(text)]


class TokensTest(unittest.TestCase):
    def assert_error(self, kind, place, text):
        with self.assertRaises(BridgeError) as caught:
            tokens_of(text)
        self.assertIs(type(caught.exception), kind, text)
        self.assertIsInstance(caught.exception, TextError)
        self.assertEqual(caught.exception.place, place, text)

    def test_the_example_of_the_interface(self):
        self.assertEqual(tokens_of("u8 a in -0..0x1F;"), [
            ("word", "u8", 0), ("word", "a", 3), ("word", "in", 5), ("number", 0, 8), ("symbol", "..", 10),
            ("number", 31, 12), ("symbol", ";", 16)])

    def test_texts_without_tokens(self):
        for text in ["", " ", "\n", "\t", " \t\n \n"]:
            self.assertEqual(tokens_of(text), [])

    def test_blanks(self):
        self.assertEqual(tokens_of(" a\tb\n\n ;\n"), [("word", "a", 1), ("word", "b", 3), ("symbol", ";", 7)])
        self.assertEqual(tokens_of("a"), [("word", "a", 0)])
        for blank in ["\r", "\x0b", "\x0c", "\xa0", "\x00"]:
            self.assert_error(UnexpectedCharacter, 1, "a" + blank)

    def test_words(self):
        letters = "ABCDEFGHIJKLMNOPQRSTUVWXYZabcdefghijklmnopqrstuvwxyz"
        for letter in letters:
            self.assertEqual(tokens_of(letter), [("word", letter, 0)])
            self.assertEqual(tokens_of("a" + letter), [("word", "a" + letter, 0)])
        for digit in "0123456789_":
            self.assertEqual(tokens_of("a" + digit + "b"), [("word", "a" + digit + "b", 0)])
        self.assertEqual(values("in default list_ signed a0x1F u8"), ["in", "default", "list_", "signed", "a0x1F", "u8"])
        self.assertEqual(values("a__ b_1_"), ["a__", "b_1_"])

    def test_the_length_of_words(self):
        for word in ["a" * 20, "Z_" + "9" * 18, "a" + "_" * 19]:
            self.assertEqual(tokens_of(" " + word + ";"), [("word", word, 1), ("symbol", ";", 21)])
            self.assert_error(WordTooLong, 2, "1 " + word + "b")
            self.assert_error(WordTooLong, 2, "1 " + word + "_;")
            self.assert_error(WordTooLong, 0, word + "0" * 900)

    def test_decimal_numbers(self):
        for text, number in [("0", 0), ("1", 1), ("9", 9), ("10", 10), ("60", 60), ("4294967295", 4294967295),
                             ("-0", 0), ("-1", -1), ("-128", -128), ("-4294967295", -4294967295)]:
            self.assertEqual(tokens_of("a " + text), [("word", "a", 0), ("number", number, 2)])
            self.assertIs(type(tokens_of(text)[0][1]), int)
        for text in ["00", "01", "007", "-00", "-01", "4294967296", "-4294967296", "9999999999", "10000000000",
                     "99999999999999999999999", "9" * 1900, "1a", "1_", "1_0", "0_", "0b", "0b1", "0o7", "5u8", "1e3"]:
            self.assert_error(InvalidNumber, 2, "a " + text)

    def test_hexadecimal_numbers(self):
        for text, number in [("0x0", 0), ("0x1F", 31), ("0x1f", 31), ("0xabcdef", 11259375), ("0xABCDEF", 11259375),
                             ("0xFFFFFFFF", 4294967295), ("0x00000000", 0), ("0x0000000a", 10), ("0x9", 9),
                             ("-0x10", -16), ("-0xffffffff", -4294967295), ("-0x0", 0)]:
            self.assertEqual(tokens_of("a " + text + ";")[1:], [("number", number, 2), ("symbol", ";", 2 + len(text))])
        for text in ["0x", "-0x", "0x;", "0x000000000", "0x100000000", "0xg", "0x1g", "0x_", "0x1_", "0X1F", "0Xf",
                     "00x1", "1x1", "0x-1", "0xx1"]:
            self.assert_error(InvalidNumber, 2, "a " + text)

    def test_minus_signs(self):
        self.assertEqual(values("1-2"), [1, -2])
        self.assertEqual(tokens_of("a-2"), [("word", "a", 0), ("number", -2, 1)])
        self.assertEqual(values("-1-0x2-3"), [-1, -2, -3])
        for text in ["-", "- 1", "--1", "-a", "-_", "-;", "-\n1", "-.."]:
            self.assert_error(InvalidNumber, 2, "a " + text)
        self.assert_error(InvalidNumber, 4, "a -1- 2")

    def test_symbols(self):
        for symbol in ["{", "}", "[", "]", ";", ":", ",", "..", "_"]:
            self.assertEqual(tokens_of(symbol), [("symbol", symbol, 0)])
            self.assertEqual(tokens_of("a " + symbol + " b")[1], ("symbol", symbol, 2))
        self.assertEqual(tokens_of("{}[];:,.."), [
            ("symbol", "{", 0), ("symbol", "}", 1), ("symbol", "[", 2), ("symbol", "]", 3), ("symbol", ";", 4),
            ("symbol", ":", 5), ("symbol", ",", 6), ("symbol", "..", 7)])

    def test_dots(self):
        self.assertEqual(tokens_of("...."), [("symbol", "..", 0), ("symbol", "..", 2)])
        self.assertEqual(values("1..2"), [1, "..", 2])
        self.assertEqual(values("a..-2"), ["a", "..", -2])
        for text, place in [(".", 0), ("...", 2), (". .", 0), ("1.5", 1), ("a.b", 1), (".\n.", 0), ("1....2.", 6)]:
            self.assert_error(UnexpectedCharacter, place, text)

    def test_underscores(self):
        self.assertEqual(tokens_of("_:_ _;"), [("symbol", "_", 0), ("symbol", ":", 1), ("symbol", "_", 2),
                                               ("symbol", "_", 4), ("symbol", ";", 5)])
        self.assertEqual(values("_-1"), ["_", -1])
        for text in ["__", "_a", "_Z", "_0", "_9", "___"]:
            self.assert_error(UnexpectedCharacter, 2, "a " + text)

    def test_characters_that_are_in_no_token(self):
        for code in range(128):
            character = chr(code)
            if not character.isalnum() and character not in " \t\n{}[];:,_-":
                self.assert_error(UnexpectedCharacter, 2, "a " + character)
        for character in ["\xe4", "\u0663", "\xb2", "\u2163", "\uff21"]:
            self.assert_error(UnexpectedCharacter, 2, "a " + character)
            self.assert_error(UnexpectedCharacter, 1, "a" + character)
            self.assert_error(UnexpectedCharacter, 1, "1" + character)

    def test_the_first_error_counts(self):
        self.assert_error(InvalidNumber, 2, "a 01 . " + "b" * 21)
        self.assert_error(UnexpectedCharacter, 2, "a . 01 " + "b" * 21)
        self.assert_error(WordTooLong, 0, "b" * 21 + " 01 .")

    def test_random_texts(self):
        rng = random.Random(220)
        parts = ["a", "Z9_", "_", "__", " ", "\t", "\n", "0", "00", "0x", "0xF", "12", "-", ".", "..", ";", "{", "}",
                 "[", "]", ":", ",", "u8", "4294967295", "4294967296", "/", "#", "x" * 19]
        good = [part for part in parts if part not in ["__", "00", "0x", "-", ".", "4294967296", "/", "#", "x" * 19]]
        errors = 0
        for index in range(6000):
            chosen = good if index % 2 else parts
            text = "".join(rng.choice(chosen) for _ in range(rng.randint(0, 12)))
            expected = slow_tokens(text)
            if isinstance(expected, list):
                self.assertEqual(tokens_of(text), expected, text)
            else:
                errors += 1
                self.assert_error(*expected, text)
        self.assertGreater(errors, 1000)
        self.assertLess(errors, 5000)

    def test_long_texts(self):
        text = "a1 0x1F;" * 250
        self.assertEqual(len(text), 2000)
        self.assertEqual(tokens_of(text), slow_tokens(text))

    def test_the_list_is_new_each_time(self):
        tokens_of("a b").append(1)
        self.assertEqual(tokens_of("a b"), [("word", "a", 0), ("word", "b", 2)])


if __name__ == "__main__":
    unittest.main()
