"""Tests of bytebridge.converting: points 3 and 160 to 165, and its section of the interface."""

import random
import unittest

from bridge_oracle import conversion
from bridge_samples import random_conversions, sent_table
from bytebridge.converting import Converter, arrivals, convert, sent_after, stream
from bytebridge.errors import UnexpectedByte, UnexpectedEnd
from bytebridge.linking import Bridge
from oracle import BITS, encoded
from samples import array, integer

# The layouts of points 3 and 165.
STATION = (
    integer("u8", "id"),
    ("list", "readings", ("marked", 3), (integer("u16be", "t"), integer("u8", "q", False, ((0, 3),)))),
    ("check", "xor"),
)
DISPLAY = (
    ("literal", (126,)),
    ("list", "readings", ("counted", "u8", 0, 3), (integer("u8", "q", False, ((0, 3),)), integer("u16le", "t"))),
    integer("u8", "id"),
    ("check", "sum"),
)
METER = (integer("u8", "kind", False, ((1, 9),)), integer("u16le", "value"), ("check", "sum"))
HOST = (integer("u16be", "value"), integer("u8", "kind", False, ((1, 5),)), integer("u8", "version", False, None, 2))


class ConvertingTest(unittest.TestCase):
    def assert_unexpected(self, bridge, data, place):
        for call in [sent_after, convert, arrivals]:
            with self.assertRaises(UnexpectedByte) as caught:
                call(bridge, data)
            self.assertEqual(caught.exception.place, place)

    def assert_end(self, bridge, data):
        for call in [convert, arrivals]:
            with self.assertRaises(UnexpectedEnd):
                call(bridge, data)


class FunctionsTest(ConvertingTest):
    def test_the_example_of_point_165(self):
        bridge = Bridge(METER, HOST)
        self.assertEqual(convert(bridge, [2, 44, 1, 47]), [1, 44, 2, 2])
        for many, sent in [(0, []), (1, []), (2, []), (3, [1, 44, 2, 2]), (4, [1, 44, 2, 2])]:
            self.assertEqual(sent_after(bridge, [2, 44, 1, 47][:many]), sent)
        self.assertEqual(arrivals(bridge, [2, 44, 1, 47]), [3, 3, 3, 3])
        self.assert_unexpected(bridge, [2, 44, 1, 48], 3)
        self.assert_unexpected(bridge, [7], 0)
        self.assert_unexpected(bridge, [7, 0, 0, 7], 0)
        self.assert_unexpected(bridge, [0], 0)
        self.assert_unexpected(bridge, [2, 44, 1, 47, 0], 4)
        for many in range(4):
            self.assert_end(bridge, [2, 44, 1, 47][:many])

    def test_layouts_without_items_and_without_members(self):
        empty = Bridge((), ())
        self.assertEqual(convert(empty, []), [])
        self.assertEqual(arrivals(empty, []), [])
        self.assert_unexpected(empty, [0], 0)
        target = (("literal", (1, 2)), integer("u8", "a", False, None, 3), ("reserved", 1), ("check", "sum"))
        bridge = Bridge((), target)
        self.assertEqual(sent_after(bridge, []), [1, 2, 3, 0, 6])
        self.assertEqual(convert(bridge, []), [1, 2, 3, 0, 6])
        self.assertEqual(arrivals(bridge, []), [0] * 5)
        bridge = Bridge((("literal", (7,)), ("reserved", 1)), target)
        self.assertEqual(sent_after(bridge, [7]), [1, 2, 3, 0, 6])
        self.assertEqual(arrivals(bridge, [7, 255]), [0] * 5)
        self.assert_unexpected(bridge, [8], 0)
        self.assert_end(bridge, [7])
        self.assertEqual(convert(Bridge((integer("u8", "a"),), ()), [9]), [])

    def test_bytes_that_are_sent_before_anything_is_received(self):
        source = (integer("u8", "kind", False, ((3, 9),)), array("u8", "s", ("marked", 4)))
        target = (("literal", (126,)), integer("u8", "kind", False, ((1, 3),)), array("u8", "s", ("exactly", 2)))
        bridge = Bridge(source, target)
        self.assertEqual(sent_after(bridge, []), [126, 3])
        self.assertEqual(arrivals(bridge, [3, 1, 7, 1, 8, 0]), [0, 0, 3, 5])
        self.assert_unexpected(bridge, [4], 0)
        self.assert_unexpected(bridge, [3, 0], 1)
        self.assert_unexpected(bridge, [3, 1, 7, 0], 3)
        self.assert_unexpected(bridge, [3, 1, 7, 1, 8, 1], 5)

    def test_what_cannot_be_converted_is_unexpected_as_early_as_possible(self):
        # The target allows 0 to 4095, so the first byte must be below 16 in the one byte order,
        narrow = (("word", "u16be", ((None, 4, False, None, None), ("x", 12, False, None, None))),)
        bridge = Bridge((integer("u16be", "x"),), narrow)
        self.assert_unexpected(bridge, [16], 0)
        self.assertEqual(convert(bridge, [15, 255]), [15, 255])
        # and the second one in the other.
        bridge = Bridge((integer("u16le", "x"),), narrow)
        self.assertEqual(sent_after(bridge, [16]), [])
        self.assert_unexpected(bridge, [16, 16], 1)
        # The target has no case with the number 258 of the source, but one with 256.
        cases = ((256, "a", ()), (258, "b", ()), (3, "c", ()))
        bridge = Bridge((("choice", "c", "u16be", cases),), (("choice", "c", "u8", ((1, "a", ()), (2, "d", ()))),))
        self.assertEqual(sent_after(bridge, []), [1])
        self.assert_unexpected(bridge, [0], 0)
        self.assert_unexpected(bridge, [1, 2], 1)
        self.assertEqual(arrivals(bridge, [1, 0]), [0])

    def test_numbers_of_elements_that_cannot_be_converted(self):
        bridge = Bridge((array("u8", "s", ("counted", "u16le", 0, 9)),), (array("u8", "s", ("counted", "u8", 2, 3)),))
        self.assert_unexpected(bridge, [1], 0)
        self.assert_unexpected(bridge, [4], 0)
        self.assert_unexpected(bridge, [3, 1], 1)
        self.assertEqual(arrivals(bridge, [2, 0, 8, 9]), [1, 3, 4])

    def test_free_bits_and_reserved_bytes_of_the_source_are_not_converted(self):
        word = ("word", "u8", ((None, 4, False, None, None), ("a", 4, False, None, None)))
        bridge = Bridge((word, ("reserved", 1), ("check", "sum")), (("reserved", 1), word, ("check", "sum")))
        self.assertEqual(convert(bridge, [245, 200, 189]), [0, 5, 5])
        self.assertEqual(arrivals(bridge, [245, 200, 189]), [0, 1, 1])
        self.assert_unexpected(bridge, [245, 200, 5], 2)

    def test_check_bytes_that_are_wrong_after_everything_has_been_sent(self):
        bridge = Bridge(STATION, DISPLAY)
        self.assertEqual(len(sent_after(bridge, [5, 1, 1, 2, 3, 0])), 7)
        self.assert_unexpected(bridge, [5, 1, 1, 2, 3, 0, 5], 6)
        self.assertEqual(convert(bridge, [5, 1, 1, 2, 3, 0, 4]), [126, 1, 3, 2, 1, 5, 138])

    def test_the_profile_examples_of_point_209(self):
        source = (integer("u16be", "a"), integer("u8", "b"), integer("u32be", "c"))
        self.assertEqual(arrivals(Bridge(source, source[::-1]), [1, 2, 3, 4, 5, 6, 7]), [4, 5, 6, 7, 7, 7, 7])
        bridge = Bridge((array("u8", "l", ("marked", 3)),), (array("u16be", "l", ("marked", 3)),))
        self.assertEqual(arrivals(bridge, [1, 7, 1, 7, 1, 7, 0]), [1, 1, 2, 3, 3, 4, 5, 5, 6, 6])
        self.assertEqual(arrivals(bridge, [1, 7, 0]), [1, 1, 2, 3])
        # The first byte determines the value, because the second one must be 0.
        self.assertEqual(arrivals(Bridge((integer("u16le", "x"),), (integer("u8", "x"),)), [9, 0]), [1])
        self.assertEqual(arrivals(Bridge((integer("u16be", "x"),), (integer("u8", "x"),)), [0, 9]), [2])

    def test_wide_integers(self):
        a, b = ("a", 3, True, None, None), ("b", 13, False, None, None)
        source = (integer("u32le", "x", True), ("word", "u16be", (a, b)))
        target = (("word", "u16le", (b, a)), integer("u32be", "x", True))
        bridge = Bridge(source, target)
        record = (-2, -3, 4242)
        message = encoded(source, record)
        self.assertEqual(message, [254, 255, 255, 255, 176, 146])
        self.assertEqual(convert(bridge, message), encoded(target, (4242, -3, -2)))
        self.assertEqual(arrivals(bridge, message), [6, 6, 6, 6, 6, 6])
        back = Bridge(target, source)
        self.assertEqual(arrivals(back, convert(bridge, message)), [6, 6, 6, 6, 6, 6])
        same = Bridge(source, source)
        self.assertEqual(arrivals(same, message), [1, 2, 3, 4, 5, 6])

    def test_the_lists_are_new_each_time(self):
        bridge = Bridge(METER, HOST)
        message = [2, 44, 1, 47]
        for call in [sent_after, convert, arrivals]:
            before = call(bridge, message)
            call(bridge, message).append(99)
            self.assertEqual(call(bridge, message), before)
        self.assertEqual(message, [2, 44, 1, 47])


class RandomTest(ConvertingTest):
    def test_bytes_sent_after_every_beginning(self):
        for free, seed in [(False, 16000), (True, 16001)]:
            for source, target, pairs in random_conversions(seed, 120, free):
                bridge = Bridge(source, target)
                for data, sent in sent_table(pairs).items():
                    self.assertEqual(sent_after(bridge, list(data)), sent, (source, target, data))

    def test_every_byte_that_is_unexpected(self):
        rng = random.Random(161)
        for source, target, pairs in random_conversions(16100, 60, False):
            bridge = Bridge(source, target)
            expected = sent_table(pairs)
            for data in rng.sample(sorted(expected), min(3, len(expected))):
                wrong = [byte for byte in range(256) if data + (byte,) not in expected]
                for byte in wrong:
                    with self.assertRaises(UnexpectedByte) as caught:
                        sent_after(bridge, list(data) + [byte, 0])
                    self.assertEqual(caught.exception.place, len(data))
                self.assert_unexpected(bridge, list(data) + [rng.choice(wrong)], len(data))

    def test_whole_messages(self):
        rng = random.Random(164)
        for source, target, pairs in random_conversions(16400, 200, True):
            bridge = Bridge(source, target)
            table = sent_table(pairs)
            for message, converted in rng.sample(pairs, min(5, len(pairs))):
                self.assertEqual(convert(bridge, message), converted)
                lengths = [len(table[tuple(message[:many])]) for many in range(len(message) + 1)]
                least = [min(many for many, length in enumerate(lengths) if length > place)
                         for place in range(len(converted))]
                self.assertEqual(arrivals(bridge, message), least, (source, target, message))
                if message:
                    self.assert_end(bridge, message[:-1])
                self.assert_unexpected(bridge, message + [0], len(message))

    def test_unsigned_integers_of_all_widths(self):
        # With these bytes, below any power of 2 each bit is once 0 and once 1.
        some_bytes = [0, 1, 3, 7, 15, 31, 63, 127, 255]
        for word in ["u16be", "u16le"]:
            for width in range(1, 33):
                for other in [other for other in sorted(BITS) if BITS[other] >= width]:
                    free = BITS[other] - width
                    parts = (("x", width, False, None, None), (None, free, False, None, None))
                    self.check_pair(word, ("word", other, parts[:1] if free == 0 else parts), some_bytes)

    def check_pair(self, word, item, some_bytes):
        """An integer that fills a word of two bytes is converted to a field of another width."""
        source, target = (integer(word, "x"),), (item,)
        numbers = [256 * high + low for high in some_bytes for low in some_bytes]
        pairs = [(encoded(source, (number,)), encoded(target, (number,)))
                 for number in numbers if number < 2 ** item[2][0][1]]
        bridge = Bridge(source, target)
        table = sent_table(pairs)
        for data, sent in table.items():
            self.assertEqual(sent_after(bridge, list(data)), sent, (word, item, data))
        for data in [data + (byte,) for data in table if len(data) < 2 for byte in some_bytes]:
            if data not in table:
                self.assert_unexpected(bridge, list(data), len(data) - 1)

    def test_pieces(self):
        rng = random.Random(163)
        for source, target, pairs in random_conversions(16300, 150, True):
            bridge = Bridge(source, target)
            for message, _ in rng.sample(pairs, min(3, len(pairs))):
                self.check_pieces(rng, bridge, message)

    def check_pieces(self, rng, bridge, message):
        run = Converter(bridge)
        chunks = []
        lists = [run.take([])]
        place = 0
        while place < len(message) or rng.random() < 0.5:
            piece = message[place:place + rng.choice([0, 1, 1, 2, 5])]
            wrong = piece + [rng.randrange(256)]
            try:
                sent_after(bridge, message[:place] + wrong)
            except UnexpectedByte as error:
                with self.assertRaises(UnexpectedByte) as caught:
                    run.take(wrong)
                self.assertEqual(caught.exception.place, error.place)
            self.assertEqual(run.received, message[:place])
            place += len(piece)
            chunks.append(piece)
            lists.append(run.take(piece))
            self.assertEqual(run.received, message[:place])
            self.assertEqual(run.sent, sent_after(bridge, message[:place]))
            self.assertEqual(run.sent, [byte for sent in lists for byte in sent])
            self.assertIs(run.done, place == len(message))
        self.assertEqual(run.sent, convert(bridge, message))
        self.assertEqual(list(stream(bridge, chunks)), lists)


class ConverterTest(unittest.TestCase):
    def assert_refused(self, run, data, place):
        with self.assertRaises(UnexpectedByte) as caught:
            run.take(data)
        self.assertEqual(caught.exception.place, place)

    def test_the_example_of_point_3(self):
        run = Converter(Bridge(STATION, DISPLAY))
        self.assertEqual(run.take([]), [126])
        self.assertEqual(run.take([5, 1, 1, 2, 3]), [])
        self.assertEqual(run.take([0]), [1, 3, 2, 1, 5, 138])
        self.assertIs(run.done, False)
        self.assertEqual(run.take([4]), [])
        self.assertIs(run.done, True)
        self.assertEqual(run.received, [5, 1, 1, 2, 3, 0, 4])
        self.assertEqual(run.sent, [126, 1, 3, 2, 1, 5, 138])

    def test_a_new_converter(self):
        run = Converter(Bridge(METER, HOST))
        self.assertIs(run.done, False)
        self.assertEqual((run.received, run.sent), ([], []))
        self.assertIs(Converter(Bridge((), ())).done, True)
        run = Converter(Bridge((), (("literal", (5,)),)))
        self.assertIs(run.done, True)
        self.assertEqual(run.sent, [])
        self.assertEqual(run.take([]), [5])
        self.assertEqual(run.take([]), [])
        self.assertIs(Converter(Bridge((("literal", (5,)),), ())).done, False)

    def test_the_first_call_also_returns_what_could_be_sent_before(self):
        run = Converter(Bridge(STATION, DISPLAY))
        self.assertEqual(run.take([5, 0]), [126, 0, 5, 131])
        self.assertEqual(run.sent, [126, 0, 5, 131])

    def test_a_wrong_check_byte_after_everything_has_been_sent(self):
        run = Converter(Bridge(METER, HOST))
        self.assertEqual(run.take([2, 44, 1]), [1, 44, 2, 2])
        for byte in [48, 0, 255]:
            self.assert_refused(run, [byte], 3)
        self.assertIs(run.done, False)
        self.assertEqual(run.sent, [1, 44, 2, 2])
        self.assertEqual(run.take([47]), [])
        self.assertIs(run.done, True)

    def test_a_refused_piece_leaves_no_trace(self):
        run = Converter(Bridge(METER, HOST))
        self.assert_refused(run, [2, 44, 1, 48], 3)
        self.assert_refused(run, [7], 0)
        self.assertEqual((run.received, run.sent, run.done), ([], [], False))
        self.assertEqual(run.take([3]), [])
        self.assert_refused(run, [0, 1, 4, 9], 4)
        self.assertEqual((run.received, run.sent, run.done), ([3], [], False))
        self.assertEqual(run.take([0, 1]), [1, 0, 3, 2])
        self.assertEqual(run.take([4]), [])
        self.assertIs(run.done, True)

    def test_after_the_end_every_byte_is_unexpected(self):
        run = Converter(Bridge(METER, HOST))
        run.take([2, 44, 1, 47])
        self.assert_refused(run, [0], 4)
        self.assert_refused(run, [47, 1], 4)
        self.assertEqual(run.take([]), [])
        self.assertIs(run.done, True)
        self.assertEqual(run.received, [2, 44, 1, 47])

    def test_what_is_passed_and_returned_is_not_kept(self):
        run = Converter(Bridge(METER, HOST))
        data = [2]
        run.take(data)
        data.append(99)
        data[0] = 9
        run.received.append(98)
        run.sent.append(97)
        sent = run.take([44, 1])
        self.assertEqual(sent, [1, 44, 2, 2])
        sent.append(96)
        self.assertEqual(run.received, [2, 44, 1])
        self.assertEqual(run.sent, [1, 44, 2, 2])
        self.assertEqual(run.take([47]), [])
        self.assertEqual(data, [9, 99])

    def test_converters_of_one_bridge_do_not_know_of_one_another(self):
        bridge = Bridge(METER, HOST)
        before = bridge.convertible
        first, second = Converter(bridge), Converter(bridge)
        first.take([2, 44, 1])
        self.assertEqual((second.received, second.sent), ([], []))
        self.assertEqual(second.take([3, 44, 2]), [2, 44, 3, 2])
        self.assertEqual(bridge.convertible, before)

    def test_a_long_message_byte_by_byte(self):
        items = (integer("u16be", "t"), integer("u8", "q", False, ((0, 3),)), integer("u16le", "z"))
        source = (("list", "l", ("marked", 60), items),)
        target = (("list", "l", ("marked", 60), items[::-1] + (integer("u8", "n", False, None, 7),)),)
        bridge = Bridge(source, target)
        record = (tuple([(number, number % 4, 65535 - number) for number in range(60)]),)
        message = encoded(source, record)
        converted = encoded(target, conversion(source, target, record))
        self.assertEqual(convert(bridge, message), converted)
        times = arrivals(bridge, message)
        self.assertEqual(len(times), len(converted))
        self.assertEqual(times[:9], [1, 5, 6, 6, 6, 6, 6, 7, 11])
        self.assertEqual(times[-1], 360)


class StreamTest(unittest.TestCase):
    def test_the_example_of_the_interface(self):
        self.assertEqual(list(stream(Bridge(METER, HOST), [[2], [44, 1], [47]])), [[], [], [1, 44, 2, 2], []])

    def test_without_chunks_and_with_empty_ones(self):
        bridge = Bridge(STATION, DISPLAY)
        self.assertEqual(list(stream(bridge, [])), [[126]])
        self.assertEqual(list(stream(bridge, [[], [5, 0], [], [5], []])), [[126], [], [0, 5, 131], [], [], []])

    def test_each_list_is_yielded_before_the_next_chunk(self):
        run = stream(Bridge(METER, HOST), [[2, 44], [1], [48], [1, 2, 3]])
        self.assertEqual(next(run), [])
        self.assertEqual(next(run), [])
        self.assertEqual(next(run), [1, 44, 2, 2])
        with self.assertRaises(UnexpectedByte) as caught:
            next(run)
        self.assertEqual(caught.exception.place, 3)

    def test_an_error_comes_with_its_chunk(self):
        run = stream(Bridge(METER, HOST), [[7]])
        self.assertEqual(next(run), [])
        with self.assertRaises(UnexpectedByte) as caught:
            next(run)
        self.assertEqual(caught.exception.place, 0)

    def test_the_end_may_be_missing(self):
        self.assertEqual(list(stream(Bridge(METER, HOST), [[2, 44]])), [[], []])

    def test_what_is_yielded_is_not_kept(self):
        chunks = [[2, 44], [1], [47]]
        found = []
        for sent in stream(Bridge(METER, HOST), chunks):
            found.append(list(sent))
            sent.append(99)
        self.assertEqual(found, [[], [], [1, 44, 2, 2], []])
        self.assertEqual(chunks, [[2, 44], [1], [47]])


class InterfaceExampleTest(ConvertingTest):
    def test_the_examples_of_the_interface(self):
        bridge = Bridge(METER, HOST)
        self.assertEqual(convert(bridge, [2, 44, 1, 47]), [1, 44, 2, 2])
        self.assertEqual(sent_after(bridge, [2, 44]), [])
        self.assertEqual(arrivals(bridge, [2, 44, 1, 47]), [3, 3, 3, 3])
        self.assert_unexpected(bridge, [7, 0, 0, 7], 0)
        self.assert_unexpected(bridge, [2, 44, 1, 48], 3)
        self.assert_end(bridge, [2, 44])


if __name__ == "__main__":
    unittest.main()
