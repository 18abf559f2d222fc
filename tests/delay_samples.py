"""Random bridges whose members have many different sizes, but few values."""

import random

from bridge_oracle import error_of
from bridge_samples import conversions, convertible_records
from oracle import BITS, many_in, whole_domain
from samples import integer

VALUES = [(5,), (5,), (5, 6), (3, 4), (0, 255)]


class PairMaker:
    """Makes two layouts of the same members, which stand in another order and are stored in another way."""

    def __init__(self, seed):
        self.rng = random.Random(seed)
        self.names = 0

    def name(self):
        self.names += 1
        return f"m{self.names}"

    def members(self, depth):
        rng = self.rng
        found = []
        for _ in range(rng.randint(1, 3)):
            kind = rng.choice(["integer", "array"] + (["list", "choice", "record"] if depth else []))
            name = self.name()
            if kind in ("integer", "array"):
                inner = rng.choice(VALUES)
            elif kind == "choice":
                inner = [(self.name(), self.members(depth - 1)) for _ in range(rng.randint(1, 3))]
            else:
                inner = self.members(depth - 1)
            found.append((kind, name, inner))
        return found

    def count(self, most):
        rng = self.rng
        kind = rng.choice(["exactly", "counted", "marked", "marked"])
        if kind == "counted":
            greatest = rng.randint(1, most)
            return (kind, rng.choice(sorted(BITS)), rng.randint(0, greatest), greatest)
        return (kind, rng.randint(1, most))

    def ranges(self, values):
        if values == (3, 4) or values == (5, 6):
            return (values,)
        return tuple([(value, value) for value in values])

    def integer(self, name, values):
        word = self.rng.choice(["u8", "u16be", "u16le", "u32be"])
        above = self.rng.randint(0, BITS[word] - 8)
        parts = [(None, above, False, None, None), (name, 8, False, self.ranges(values), values[0]),
                 (None, BITS[word] - 8 - above, False, None, None)]
        return ("word", word, tuple([part for part in parts if part[1]]))

    def extra(self):
        name = self.name()
        array = ("array", name, "u8", False, self.count(2), ((9, 9),), 9)
        return self.rng.choice([("literal", (1,)), ("check", "sum"), ("literal", (1, 2, 3)), array,
                                integer("u8", name, False, ((1, 1),), 1)])

    def item(self, member, is_source):
        rng = self.rng
        kind, name, inner = member
        if kind == "integer":
            return self.integer(name, inner)
        if kind == "array":
            # The source allows few integers only, so that there are few messages.
            ranges = self.ranges(inner) if is_source else None
            word = "u8" if is_source else rng.choice(sorted(BITS))
            return ("array", name, word, False, self.count(4), ranges, inner[0])
        if kind == "record":
            return ("record", name, self.layout(inner, is_source))
        if kind == "list":
            behind = ("literal", (7,) * rng.randint(1, 3))
            return ("list", name, self.count(3), self.layout(inner, is_source) + (behind,))
        word = rng.choice(sorted(BITS))
        numbers = rng.sample([0, 1, 2, 3, 255] + ([] if word == "u8" else [256, 258, 513]), len(inner))
        cases = [(number, case, self.layout(items, is_source)) for number, (case, items) in zip(numbers, inner)]
        kept = [case for case in cases if rng.random() < 0.9] or cases
        return ("choice", name, word, tuple(rng.sample(kept, len(kept))))

    def layout(self, members, is_source):
        rng = self.rng
        found = [self.item(member, is_source) for member in members if rng.random() < 0.92]
        found += [self.extra() for _ in range(rng.choice([0, 1, 2]))]
        rng.shuffle(found)
        return tuple(found)


def sized_conversions(seed, many, most_records):
    """Random bridges, each with the pairs of all convertible messages, free bits 0, and their conversions."""
    found = []
    while len(found) < many:
        seed += 1
        maker = PairMaker(seed)
        members = maker.members(maker.rng.choice([1, 1, 2]))
        source, target = maker.layout(members, True), maker.layout(members, False)
        if not 2 <= many_in(source, whole_domain(source)) <= most_records or error_of(source, target):
            continue
        if convertible_records(source, target):
            found.append((source, target, conversions(source, target, lambda bits: [0])))
    return found
