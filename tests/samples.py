"""Layouts for tests: short names for items, and random layouts from a seed."""

import random

from oracle import BITS, integers_of, limits, many_in, whole_domain

# Integers for fields of more than 8 bits: their bytes agree and differ in many ways.
WIDE = (0, 1, 2, 255, 256, 257, 513, 32767, 32768, 65280, 65535, 65536, 16777216, 4294967295,
        -1, -2, -256, -257, -32768, -65536, -2147483648)


def integer(word, name, signed=False, ranges=None, default=None):
    """A word item of one part."""
    return ("word", word, ((name, BITS[word], signed, ranges, default),))


def array(word, name, count, ranges=None, default=None, signed=False):
    return ("array", name, word, signed, count, ranges, default)


def random_ranges(rng, width, signed, many):
    """At most many ranges with few integers each, in the form of point 42."""
    low, high = (-2 ** (width - 1), 2 ** (width - 1) - 1) if signed else (0, 2 ** width - 1)
    found = []
    for _ in range(rng.randint(1, many)):
        first = rng.choice([low, high, rng.randint(low, high), min(max(-1, low), high), min(max(0, low), high)])
        last = min(high, first + rng.randint(0, 2))
        if all(last + 1 < a or b + 1 < first for a, b in found):
            found.append((first, last))
    return tuple(sorted(found))


class Maker:
    """Makes random layouts. Fields have few integers, or more than 8 bits if wide is true."""

    def __init__(self, seed, wide=False, free=True):
        self.rng = random.Random(seed)
        self.wide = wide
        self.free = free
        self.names = 0

    def name(self):
        self.names += 1
        return self.rng.choice("abcxyzAZ") + self.rng.choice(["", "_", "1_"]) + str(self.names)

    def part(self, width):
        """A part of a word: free bits, a narrow field, or a field with ranges."""
        rng = self.rng
        if self.free and rng.random() < 0.25:
            return (None, width, False, None, None)
        signed = rng.random() < 0.4
        if width > 8 or width <= 2 and rng.random() < 0.5:
            return (self.name(), width, signed, None, None)
        return (self.name(), width, signed, random_ranges(rng, width, signed, 2), None)

    def word(self):
        rng = self.rng
        word = rng.choice(sorted(BITS)) if self.wide else rng.choice(["u8", "u8", "u16be", "u16le"])
        left = BITS[word]
        parts = []
        while left:
            width = min(left, rng.randint(1, 8))
            if self.wide and rng.random() < 0.5:
                width = min(left, rng.randint(9, 32)) if left > 8 else left
            parts.append(self.part(width))
            left -= width
        return ("word", word, tuple(parts))

    def count(self):
        rng = self.rng
        kind = rng.choice(["exactly", "counted", "marked"])
        if kind == "counted":
            greatest = rng.randint(1, 3)
            return ("counted", rng.choice(sorted(BITS)), rng.randint(0, greatest), greatest)
        return (kind, rng.randint(1, 2))

    def array(self):
        rng = self.rng
        word = rng.choice(sorted(BITS)) if self.wide else "u8"
        signed = rng.random() < 0.4
        ranges = random_ranges(rng, 8, signed, 2) if word == "u8" else None
        return ("array", self.name(), word, signed, self.count(), ranges, None)

    def case_number(self, word):
        return self.rng.choice([0, 1, 2, 3, 7, 255] + ([256, 257, 512, 65535] if word != "u8" else []))

    def choice(self, depth):
        rng = self.rng
        word = rng.choice(sorted(BITS))
        numbers = sorted({self.case_number(word) for _ in range(rng.randint(1, 3))}, key=lambda _: rng.random())
        shared = [self.name() for _ in range(3)]
        cases = []
        for number in numbers:
            items = self.layout(depth - 1, 2)
            # The same names in several cases give facts with the same paths.
            if rng.random() < 0.5:
                low = rng.choice([3, 3, 4])
                items = (integer("u8", shared[0], False, ((low, low),)),) + items
            cases.append((number, self.name(), items))
        return ("choice", self.name(), word, tuple(cases))

    def item(self, depth):
        rng = self.rng
        kinds = ["word", "word", "word", "array", "literal", "check"] + (["reserved"] if self.free else [])
        kind = rng.choice(kinds + (["list", "choice", "record"] * 2 if depth else []))
        if kind == "word":
            return self.word()
        if kind == "array":
            return self.array()
        if kind == "list":
            return ("list", self.name(), self.count(), self.layout(depth - 1, 2) + (self.word(),))
        if kind == "choice":
            return self.choice(depth)
        if kind == "record":
            return ("record", self.name(), self.layout(depth - 1, 2))
        if kind == "literal":
            return ("literal", tuple(rng.choice([0, 1, 126, 255]) for _ in range(rng.randint(1, 2))))
        if kind == "reserved":
            return ("reserved", rng.randint(1, 2))
        return ("check", rng.choice(["sum", "xor"]))

    def layout(self, depth, most):
        return tuple(self.item(depth) for _ in range(self.rng.randint(0, most)))


def random_layouts(seed, many, most_records, wide=False, free=True, depth=3):
    """A list of random layouts, each with at most so many records (of the sample WIDE in wide fields)."""
    found = []
    while len(found) < many:
        seed += 1
        layout = Maker(seed, wide, free).layout(depth, 4)
        # A few layouts with a single record are enough.
        least = 1 if seed & 7 == 0 else 3
        if least <= many_in(layout, whole_domain(layout, WIDE)) <= most_records:
            found.append(layout)
    return found


def with_defaults(rng, items):
    """A layout in which some fields have defaults."""
    found = []
    for item in items:
        if item[0] == "word":
            parts = [part if part[0] is None else part[:4] + (some_default(rng, part[1:4]),) for part in item[2]]
            item = ("word", item[1], tuple(parts))
        elif item[0] == "array":
            item = item[:6] + (some_default(rng, (BITS[item[2]], item[3], item[5])),)
        elif item[0] == "list":
            item = item[:3] + (with_defaults(rng, item[3]),)
        elif item[0] == "record":
            item = item[:2] + (with_defaults(rng, item[2]),)
        elif item[0] == "choice":
            cases = [(number, name, with_defaults(rng, inner)) for number, name, inner in item[3]]
            item = item[:3] + (tuple(cases),)
        found.append(item)
    return tuple(found)


def some_default(rng, field):
    width, signed, ranges = field
    wide = [*limits(width, signed), 0, 1]
    return rng.choice([None, rng.choice(integers_of((width, signed, ranges, None), wide))])
