"""Random targets for random sources: the same members in another form, some left out and some added."""

import random

from bridge_oracle import conversion, error_of, is_convertible
from oracle import (
    BITS, common_start, count_of, encoded, field_of_array, integers_of, limits, members_of, messages_for, records_in,
    whole_domain)
from samples import WIDE, integer, random_layouts, random_ranges


class TargetMaker:
    """Makes a layout that is linked with a given one. With faults, members may be matched that do not go together."""

    def __init__(self, seed, faults):
        self.rng = random.Random(seed)
        self.faults = faults
        self.names = 0

    def name(self):
        self.names += 1
        return f"new{self.names}"

    def ranges(self, numbers, width, signed):
        """Ranges that allow some of the numbers, or None."""
        rng = self.rng
        if width > 8 or rng.random() < 0.4:
            return None
        low, high = limits(width, signed)
        fitting = [number for number in numbers if low <= number <= high]
        if not fitting or rng.random() < 0.2:
            return random_ranges(rng, width, signed, 3)
        first = rng.choice(fitting)
        last = rng.choice([number for number in fitting if number >= first])
        return ((first, last),)

    def default(self, field):
        if self.rng.random() < 0.25 and self.faults:
            return None
        return self.rng.choice(integers_of(field, WIDE))

    def integer(self, name, field):
        """A word item for a field that goes together with another one."""
        rng = self.rng
        width, signed = field[:2]
        if not signed:
            width = rng.choice([rng.randint(1, 32), width, min(32, width + 1), 8, 16])
        if self.faults and rng.random() < 0.08:
            signed = not signed
        ranges = self.ranges(integers_of(field, WIDE), width, signed)
        default = rng.choice([None, self.default((width, signed, ranges, None))])
        part = (name, width, signed, ranges, default)
        word = rng.choice([word for word in sorted(BITS) if BITS[word] >= width])
        left = BITS[word] - width
        above = rng.randint(0, left)
        parts = [(None, above, False, None, None), part, (None, left - above, False, None, None)]
        return ("word", word, tuple(part for part in parts if part[1]))

    def count(self, count):
        rng = self.rng
        if rng.random() < 0.4:
            return count
        kind = rng.choice(["exactly", "counted", "marked", "counted"])
        if kind == "counted":
            greatest = rng.randint(1, 3)
            return ("counted", rng.choice(sorted(BITS)), rng.randint(0, greatest), greatest)
        return (kind, rng.randint(1, 2))

    def array(self, name, item):
        rng = self.rng
        field = field_of_array(item)
        words = [word for word in sorted(BITS) if not field[1] or BITS[word] == field[0]]
        word = rng.choice(words)
        signed = field[1]
        if self.faults and rng.random() < 0.15:
            word = rng.choice(sorted(BITS))
            signed = rng.random() < 0.5
        ranges = self.ranges(integers_of(field, WIDE), BITS[word], signed)
        default = rng.choice([None, self.default((BITS[word], signed, ranges, None))])
        return ("array", name, word, signed, self.count(count_of("array", item)), ranges, default)

    def choice(self, name, item):
        rng = self.rng
        word = rng.choice(sorted(BITS))
        numbers = rng.sample([0, 1, 2, 3, 9, 254, 255] + ([] if word == "u8" else [256, 258, 513, 65535]), 6)
        cases = [(case, items) for _, case, items in item[3] if rng.random() < 0.85]
        cases.append((self.name(), (integer("u8", self.name()),)))
        rng.shuffle(cases)
        if len(cases) > 1 and rng.random() < 0.6:
            cases = [(case, items) for case, items in cases if not case.startswith("new")]
        return ("choice", name, word, tuple([(number, case, self.layout(items)) for number, (case, items)
                                             in zip(numbers, cases)]))

    def matched(self, name, kind, item):
        """The item of a member that is matched with another one."""
        if self.faults and self.rng.random() < 0.05:
            other_list = ("list", name, ("marked", 1), (integer("u8", "q"),))
            return self.rng.choice([integer("u8", name), ("record", name, ()), other_list])
        if kind == "integer":
            return self.integer(name, item)
        if kind == "array":
            return self.array(name, item)
        if kind == "list":
            return ("list", name, self.count(count_of("list", item)), self.layout(item[3]) + (("literal", (5,)),))
        if kind == "choice":
            return self.choice(name, item)
        return ("record", name, self.layout(item[2]))

    def added(self):
        """An item that is not matched."""
        rng = self.rng
        kind = rng.choice(["integer", "array", "list", "record", "literal", "reserved", "check"])
        field = (8, rng.random() < 0.3, None, None)
        if kind == "integer":
            return integer("u8", self.name(), field[1], None, self.default(field))
        if kind == "array":
            return ("array", self.name(), "u8", field[1], self.count(("marked", 1)), None, self.default(field))
        if kind in ("list", "record"):
            items = tuple([self.added() for _ in range(rng.randint(0, 2))])
            if kind == "record":
                return ("record", self.name(), items)
            return ("list", self.name(), self.count(("marked", 2)), items + (("literal", (8,)),))
        if kind == "literal":
            return ("literal", (rng.randrange(256),))
        return ("reserved", 1) if kind == "reserved" else ("check", rng.choice(["sum", "xor"]))

    def layout(self, source):
        rng = self.rng
        found = [self.matched(name, kind, item) for name, kind, item in members_of(source) if rng.random() < 0.85]
        found += [self.added() for _ in range(rng.choice([0, 0, 1, 2]))]
        rng.shuffle(found)
        return tuple(found)


def random_pairs(seed, many, most_records, free=True, faults=False):
    """Random sources with few records, each with a target; without faults the bridge can be made."""
    found = []
    for source in random_layouts(seed, many, most_records, free=free):
        for _ in range(20):
            seed += 1
            target = TargetMaker(seed, faults).layout(source)
            if faults or error_of(source, target) is None and convertible_records(source, target):
                found.append((source, target))
                break
    return found


def convertible_records(source, target):
    records = records_in(source, whole_domain(source, WIDE))
    return [record for record in records if is_convertible(source, target, record)]


def conversions(source, target, fill=None):
    """Pairs of all convertible messages and their conversions; fill gives the free bits and reserved bytes."""
    return [(message, encoded(target, conversion(source, target, record)))
            for record in convertible_records(source, target) for message in messages_for(source, record, fill)]


def sent_table(pairs):
    """For each sequence of bytes with which a convertible message begins the bytes sent after it: point 160."""
    found = {}
    for message, converted in pairs:
        for many in range(len(message) + 1):
            found.setdefault(tuple(message[:many]), []).append(converted)
    return {data: common_start(messages) for data, messages in found.items()}


def random_conversions(seed, many, free):
    """Random bridges, each with the pairs of all convertible messages and their conversions."""
    found = []
    for source, target in random_pairs(seed, many, 120, free=free):
        pairs = conversions(source, target, lambda bits: sorted({0, 180 % 2 ** bits}))
        if len(pairs) <= 1500:
            found.append((source, target, pairs))
    return found
