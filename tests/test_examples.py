"""The examples of the document, point by point, with the layouts read from texts as the document has them."""

import unittest

from bytebridge.chains import best, chain, point_value
from bytebridge.converting import Converter, arrivals, convert, sent_after, stream
from bytebridge.delays import late_message, profile, start_delay
from bytebridge.errors import InvalidMember, UnexpectedByte, UnexpectedEnd
from bytebridge.linking import Bridge
from bytebridge.machine import Machine
from bytebridge.messages import first_invalid, write_message
from bytebridge.patterns import how_many, single, whole
from bytebridge.plans import compiled, folded
from bytebridge.printer import show_layout
from bytebridge.reading import Reader, read_message
from bytebridge.reports import filled, lost, narrowed
from bytebridge.source import read_layout
from bytebridge.views import View
from bytebridge.writing import Composer


class ExamplesTest(unittest.TestCase):
    def test_point_3(self):
        station = read_layout("u8 id; list readings[marked 3] { u16be t; u8 q in 0..3; } check xor;")
        display = read_layout(
            "literal 0x7E; list readings[u8 0..3] { u8 q in 0..3; u16le t; } u8 id; check sum;")
        self.assertEqual(read_message(station, [5, 1, 1, 2, 3, 0, 4]), (5, ((258, 3),)))
        bridge = Bridge(station, display)
        run = Converter(bridge)
        self.assertEqual(run.take([]), [126])
        self.assertEqual(run.take([5, 1, 1, 2, 3]), [])
        self.assertEqual(run.take([0]), [1, 3, 2, 1, 5, 138])
        self.assertIs(run.done, False)
        self.assertEqual(run.take([4]), [])
        self.assertIs(run.done, True)
        self.assertEqual(profile(bridge), [(10, 1), (13, 8)])
        self.assertEqual(start_delay(bridge), 9)
        self.assertEqual(start_delay(bridge, input_time=3, output_time=1), 31)
        for plan in [compiled(bridge), folded(compiled(bridge))]:
            machine = Machine(plan)
            self.assertEqual(machine.take([]), [126])
            self.assertEqual(machine.take([5, 1, 1, 2, 3]), [])
            self.assertEqual(machine.take([0]), [1, 3, 2, 1, 5, 138])
            self.assertIs(machine.done, False)
            self.assertEqual(machine.take([4]), [])
            self.assertIs(machine.done, True)

    def test_point_62(self):
        layout = read_layout("bits u8 { mode: 3; _: 4; ok: 1; } u16le t[u8 0..2]; check sum;")
        self.assertEqual(write_message(layout, (5, 1, (258, 3))), [161, 2, 2, 1, 3, 0, 169])
        self.assertEqual(read_message(layout, [191, 0, 191]), (5, 1, ()))
        self.assertEqual(first_invalid(layout, (5, 1, (258, 65536))), "t[1]")

    def test_point_85(self):
        layout = read_layout("u8 a in 1..3; u8 s[u8 0..2] in 7;")
        self.assertEqual(whole(layout), (
            ("among", (1, 2, 3)), ("counts", (0, 1, 2), (("bits", 255, 7), ("bits", 255, 7)))))
        self.assertEqual(how_many(layout, whole(layout)), 9)
        self.assertEqual(single(layout, (2, (7,))), (("bits", 255, 2), ("counts", (1,), (("bits", 255, 7),))))
        layout = read_layout("list r[marked 2] { u8 t; } choice c u8 { 1 on { u8 v in 3; } 2 off { } }")
        self.assertEqual(whole(layout), (
            ("counts", (0, 1, 2), ((("bits", 0, 0),), (("bits", 0, 0),))),
            ("cases", (("on", (("bits", 255, 3),)), ("off", ())))))

    def test_point_105(self):
        reader = Reader(read_layout("choice mode u8 { 0 off { u8 level in 3; } 5 on { u8 level in 3; u8 since; } } "
                                    "list readings[marked 2] { u16be t; }"))
        self.assertEqual(reader.take([]), [("mode.value.level", 3)])
        self.assertEqual(reader.take([5]), [("mode.case", "on")])
        self.assertEqual(reader.take([3, 200, 1, 1, 44]), [("mode.value.since", 200), ("readings[0].t", 300)])
        self.assertEqual(reader.take([1, 0]), [("readings.length", 2)])
        with self.assertRaises(UnexpectedByte) as caught:
            reader.take([7, 1])
        self.assertEqual(caught.exception.place, 9)
        self.assertIs(reader.done, False)
        self.assertEqual(reader.take([7, 0]), [("readings[1].t", 7)])
        self.assertIs(reader.done, True)

    def test_point_124(self):
        composer = Composer(read_layout(
            "literal 0x7E; bits u8 { version: 4; flags: 4; } u16be size; u8 data[u8 0..4]; check xor;"))
        self.assertEqual(composer.take(), [126])
        self.assertEqual(composer.blockers(), ["version", "flags"])
        composer.put("size", 300)
        composer.put("flags", 1)
        self.assertEqual(composer.blockers(), ["version"])
        self.assertEqual(composer.take(), [])
        composer.put("version", 2)
        self.assertEqual(composer.take(), [33, 1, 44])
        self.assertEqual(composer.blockers(), ["data"])
        with self.assertRaises(InvalidMember) as caught:
            composer.put("data", (7, 256))
        self.assertEqual(caught.exception.path, "data[1]")
        composer.put("data", (7,))
        self.assertEqual(composer.take(), [1, 7, 116])
        self.assertEqual(composer.blockers(), [])

    def test_point_149(self):
        source = read_layout("u8 id; u8 version in 3; list log[u8 0..9] { u8 code; u16be time; } "
                             "choice mode u8 { 1 on { u8 level; } 2 off { } }")
        target = read_layout("u16le id; list log[u8 0..4] { u8 code in 0..99; u8 flag default 1; } "
                             "choice mode u8 { 7 off { } 8 auto { } } u8 kind default 5;")
        bridge = Bridge(source, target)
        self.assertEqual(bridge.converted((9, 3, ((5, 300),), ("off", ()))), (9, ((5, 1),), ("off", ()), 5))
        self.assertEqual(narrowed(bridge), ["log", "log[].code", "mode.on"])
        self.assertEqual(lost(bridge), ["log[].time"])
        self.assertEqual(filled(bridge), ["log[].flag", "kind"])

    def test_point_165_and_the_interface_of_converting(self):
        meter = read_layout("u8 kind in 1..9; u16le value; check sum;")
        host = read_layout("u16be value; u8 kind in 1..5; u8 version default 2;")
        bridge = Bridge(meter, host)
        self.assertEqual(convert(bridge, [2, 44, 1, 47]), [1, 44, 2, 2])
        self.assertEqual(sent_after(bridge, [2, 44]), [])
        self.assertEqual(arrivals(bridge, [2, 44, 1, 47]), [3, 3, 3, 3])
        self.assertEqual(list(stream(bridge, [[2], [44, 1], [47]])), [[], [], [1, 44, 2, 2], []])
        for data, place in [([7, 0, 0, 7], 0), ([2, 44, 1, 48], 3)]:
            with self.assertRaises(UnexpectedByte) as caught:
                convert(bridge, data)
            self.assertEqual(caught.exception.place, place)
        with self.assertRaises(UnexpectedEnd):
            convert(bridge, [2, 44])

    def test_point_185(self):
        points = [(1, 0), (2, 2), (3, 3), (5, 5), (5, 6)]
        self.assertEqual(chain(points), [(1, 0), (5, 5)])
        self.assertEqual(best(points, 1, 2), 1)
        self.assertEqual([point for point in points if point_value(point, 1, 2) == 1], [(1, 0)])
        self.assertEqual(best(points, 3, 1), 10)
        self.assertEqual([point for point in points if point_value(point, 3, 1) == 10], [(5, 5)])

    def test_point_209(self):
        for source, target, points, delays in [
            ("u16be a; u8 b; u32be c;", "u32be c; u8 b; u16be a;", [(4, 0), (7, 3)], {(1, 1): 4, (3, 1): 18, (1, 3): 4}),
            ("u8 l[marked 3];", "u16be l[marked 3];", [(1, 0), (5, 6), (6, 8)], {(2, 1): 4}),
            ("u16le x;", "u8 x;", [(1, 0)], {(7, 2): 7}),
        ]:
            bridge = Bridge(read_layout(source), read_layout(target))
            self.assertEqual(profile(bridge), points)
            for (a, c), delay in delays.items():
                self.assertEqual(start_delay(bridge, input_time=a, output_time=c), delay)
            for needed, offset in points:
                self.assertEqual(arrivals(bridge, late_message(bridge, (needed, offset)))[offset], needed)

    def test_point_222(self):
        self.assertEqual(read_layout("u16be t; i8 s[marked 2] in 5, 1..3, 4..4 default 2;"), (
            ("word", "u16be", (("t", 16, False, None, None),)),
            ("array", "s", "u8", True, ("marked", 2), ((1, 5),), 2)))

    def test_point_228(self):
        layout = read_layout("bits u16le { signed x: 5; y: 3 in 5..6, 1 default 5; _: 4; z: 4; } i16be s[u8 1..0x4]; "
                             "list n [marked 2]{reserved 1;}")
        text = """bits u16le {
  signed x: 5;
  y: 3 in 1, 5..6 default 5;
  _: 4;
  z: 4;
}
i16be s[u8 1..4];
list n[marked 2] {
  reserved 1;
}
"""
        self.assertEqual(show_layout(layout), text)
        self.assertEqual(read_layout(text), layout)

    def test_point_243(self):
        view = View(read_layout("bits u8 { mode: 3; _: 4; ok: 1; } u16le t[u8 0..2]; check sum;"), [191, 1, 2, 1, 195])
        self.assertEqual(list(view), ["mode", "ok", "t[0]"])
        self.assertEqual(view["t[0]"], 258)
        view["t[0]"] = 772
        self.assertEqual(view.content, [191, 1, 4, 3, 199])
        view["mode"] = 0
        self.assertEqual(view.content, [31, 1, 4, 3, 39])
        view.poke(2, 6)
        self.assertEqual(view.content, [31, 1, 6, 3, 39])
        self.assertEqual(view["t[0]"], 774)
        view["ok"] = 0
        self.assertEqual(view.content, [30, 1, 6, 3, 40])

    def test_point_267(self):
        plan = ((("among", (1, 2, 4)),), (("bits", ((0, 0, 8, 0),)),),
                (("mark", 0, 0), ("bits", ((0, 0, 1, 0),)), ("bits", ((0, 1, 2, 0),))))
        for one in [plan, folded(plan)]:
            machine = Machine(one)
            self.assertEqual(machine.take([]), [1])
            self.assertEqual(machine.take([2]), [0, 1])
        self.assertEqual(folded(plan)[2][0], ("byte", 1))


if __name__ == "__main__":
    unittest.main()
