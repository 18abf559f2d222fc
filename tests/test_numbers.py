"""Tests of bytebridge.numbers: points 20, 21 and 22, and its section of the interface."""

import unittest

from bytebridge.numbers import bits_at, code_of, fetch, number_of, store, word_size

# For each word its size and the byte order that Python calls it by.
WORDS = {
    "u8": (1, "big"),
    "u16be": (2, "big"),
    "u16le": (2, "little"),
    "u32be": (4, "big"),
    "u32le": (4, "little"),
}

# (width, signed, number, code): written out by hand from point 20.
FIELDS = [
    (1, False, 0, 0),
    (1, False, 1, 1),
    (1, True, 0, 0),
    (1, True, -1, 1),
    (2, True, 1, 1),
    (2, True, -2, 2),
    (4, False, 14, 14),
    (4, True, -2, 14),
    (4, True, 7, 7),
    (4, True, -8, 8),
    (4, True, -1, 15),
    (8, False, 127, 127),
    (8, False, 128, 128),
    (8, False, 255, 255),
    (8, True, 127, 127),
    (8, True, -128, 128),
    (8, True, -1, 255),
    (16, False, 65535, 65535),
    (16, True, -2, 65534),
    (16, True, 32767, 32767),
    (16, True, -32768, 32768),
    (31, True, -1, 2147483647),
    (31, True, -1073741824, 1073741824),
    (32, False, 0, 0),
    (32, False, 1, 1),
    (32, False, 2147483647, 2147483647),
    (32, False, 2147483648, 2147483648),
    (32, False, 4294967295, 4294967295),
    (32, True, 0, 0),
    (32, True, 1, 1),
    (32, True, 2147483647, 2147483647),
    (32, True, -2147483648, 2147483648),
    (32, True, -1, 4294967295),
]


def edge_codes(width):
    """The codes 0, 1, the two in the middle and the two greatest ones."""
    half = 2 ** (width - 1)
    return sorted({0, 1, half - 1, half, 2 * half - 2, 2 * half - 1})


class CodeTest(unittest.TestCase):
    def test_numbers_and_codes_written_out(self):
        for width, signed, number, code in FIELDS:
            with self.subTest(width=width, signed=signed, number=number):
                self.assertEqual(code_of(number, width), code)
                self.assertEqual(number_of(code, width, signed), number)

    def test_an_unsigned_field_of_any_width_has_the_codes_themselves(self):
        for width in range(1, 33):
            for code in edge_codes(width):
                with self.subTest(width=width, code=code):
                    self.assertEqual(number_of(code, width, False), code)
                    self.assertEqual(code_of(code, width), code)

    def test_a_signed_field_of_any_width_has_the_upper_codes_for_negative_numbers(self):
        for width in range(1, 33):
            half = 2 ** (width - 1)
            for code in edge_codes(width):
                number = code if code < half else code - 2 * half
                with self.subTest(width=width, code=code):
                    self.assertEqual(number_of(code, width, True), number)
                    self.assertEqual(code_of(number, width), code)

    def test_all_integers_of_small_fields(self):
        for width in range(1, 9):
            half = 2 ** (width - 1)
            rising = list(range(half)) + list(range(-half, 0))
            codes = list(range(2 * half))
            with self.subTest(width=width):
                self.assertEqual([code_of(number, width) for number in rising], codes)
                self.assertEqual([number_of(code, width, True) for code in codes], rising)
                self.assertEqual([number_of(code, width, False) for code in codes], codes)


class WordTest(unittest.TestCase):
    def test_sizes(self):
        for word, (size, _) in WORDS.items():
            with self.subTest(word=word):
                self.assertEqual(word_size(word), size)

    def test_bytes_written_out(self):
        for word, code, data in [
            ("u8", 0, [0]),
            ("u8", 255, [255]),
            ("u16be", 258, [1, 2]),
            ("u16le", 258, [2, 1]),
            ("u16be", 1, [0, 1]),
            ("u16le", 1, [1, 0]),
            ("u32be", 258, [0, 0, 1, 2]),
            ("u32le", 258, [2, 1, 0, 0]),
            ("u32be", 16909060, [1, 2, 3, 4]),
            ("u32le", 16909060, [4, 3, 2, 1]),
            ("u32be", 2147483648, [128, 0, 0, 0]),
            ("u32le", 2147483648, [0, 0, 0, 128]),
            ("u32be", 4294967295, [255, 255, 255, 255]),
        ]:
            with self.subTest(word=word, code=code):
                self.assertEqual(store(word, code), data)
                self.assertEqual(fetch(word, data), code)

    def test_edges_of_every_word(self):
        for word, (size, order) in WORDS.items():
            for code in edge_codes(8 * size):
                data = list(code.to_bytes(size, order))
                with self.subTest(word=word, code=code):
                    self.assertEqual(store(word, code), data)
                    self.assertEqual(fetch(word, data), code)

    def test_every_single_bit_of_every_word(self):
        for word, (size, order) in WORDS.items():
            for bit in range(8 * size):
                data = list((2 ** bit).to_bytes(size, order))
                with self.subTest(word=word, bit=bit):
                    self.assertEqual(store(word, 2 ** bit), data)
                    self.assertEqual(fetch(word, data), 2 ** bit)

    def test_the_bytes_are_a_new_list_each_time(self):
        for word, (size, _) in WORDS.items():
            with self.subTest(word=word):
                first = store(word, 3)
                expected = list(first)
                self.assertIs(type(first), list)
                first.append(9)
                first[0] = 77
                self.assertEqual(store(word, 3), expected)
                self.assertEqual(len(store(word, 3)), size)

    def test_fetching_does_not_change_the_bytes(self):
        for word, (size, _) in WORDS.items():
            data = [1, 2, 3, 4][:size]
            with self.subTest(word=word):
                self.assertEqual(fetch(word, data), fetch(word, data))
                self.assertEqual(data, [1, 2, 3, 4][:size])


class BitsTest(unittest.TestCase):
    def test_bits_written_out(self):
        for code, low, width, bits in [
            (258, 1, 8, 129),
            (258, 0, 1, 0),
            (258, 0, 2, 2),
            (258, 8, 1, 1),
            (258, 9, 23, 0),
            (0, 0, 32, 0),
            (1, 0, 1, 1),
            (1, 1, 31, 0),
            (4294967295, 0, 32, 4294967295),
            (4294967295, 0, 1, 1),
            (4294967295, 31, 1, 1),
            (4294967295, 1, 31, 2147483647),
            (2147483648, 31, 1, 1),
            (2147483648, 0, 31, 0),
            (2147483648, 30, 2, 2),
            (2147483647, 31, 1, 0),
            (16909060, 24, 8, 1),
            (16909060, 16, 8, 2),
            (16909060, 8, 8, 3),
            (16909060, 0, 8, 4),
            (16909060, 4, 8, 48),
        ]:
            with self.subTest(code=code, low=low, width=width):
                self.assertEqual(bits_at(code, low, width), bits)

    def test_bit_0_of_the_result_is_bit_low_of_the_code(self):
        for code in [0, 1, 258, 2147483647, 2147483648, 2863311530, 4294967295]:
            digits = format(code, "032b")[::-1]
            for low in range(32):
                for width in range(1, 33 - low):
                    expected = int(digits[low:low + width][::-1], 2)
                    if bits_at(code, low, width) != expected:
                        self.fail(f"bits_at({code}, {low}, {width})")


class InterfaceExampleTest(unittest.TestCase):
    def test_the_examples_of_the_interface(self):
        self.assertEqual(code_of(-2, 16), 65534)
        self.assertIs(type(code_of(-2, 16)), int)
        self.assertEqual(number_of(14, 4, True), -2)
        self.assertEqual(store("u32le", 258), [2, 1, 0, 0])
        self.assertEqual(fetch("u16be", [1, 2]), 258)
        self.assertEqual(bits_at(258, 1, 8), 129)


if __name__ == "__main__":
    unittest.main()
