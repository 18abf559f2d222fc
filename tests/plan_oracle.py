"""Plans a second time: a slow machine whose sets are sets of codes, random plans, and what point 266 asks for."""

import random

from oracle import set_form

FULL = 2 ** 32 - 1
BYTE_STEPS = ("bits", "byte", "free", "check", "mark", "table")


def entry_of(codes):
    """The integer set of some codes of a slot, point 81."""
    return set_form(codes, 32, False)


def codes_of(entry):
    """All codes of a set, not too many."""
    if entry[0] == "among":
        return set(entry[1])
    _, known, code = entry
    found = {code}
    for bit in range(32):
        if not known >> bit & 1:
            found |= {other | 1 << bit for other in found}
    return found


def telling_codes(entry):
    """All codes of a set, or if there are many, codes that differ in each bit in which codes of the set differ."""
    if entry[0] == "among" or bin(entry[1]).count("1") >= 24:
        return codes_of(entry)
    return {entry[2]} | {entry[2] | 1 << bit for bit in range(32) if not entry[1] >> bit & 1}


def has_code(entry, code):
    return code in entry[1] if entry[0] == "among" else code & entry[1] == entry[2]


class Refused(Exception):
    """A byte is unexpected; its place."""


def check_byte(method, data):
    found = 0
    for byte in data:
        found = (found + byte) % 256 if method == "sum" else found ^ byte
    return found


class SlowMachine:
    """Points 262 to 264, word by word."""

    def __init__(self, plan):
        slots, self.reading, self.writing = plan
        self.sets = [codes_of(entry) for entry in slots]
        self.received = []
        self.sent = []
        self.read_at = self.landed(self.reading, 0)
        self.write_at = self.landed(self.writing, 0)

    def landed(self, steps, place):
        while place < len(steps) and steps[place][0] not in BYTE_STEPS:
            step = steps[place]
            place = step[-1] if step[0] == "jump" or self.sets[step[1]] == {step[2]} else place + 1
        return place

    @property
    def done(self):
        return self.read_at == len(self.reading)

    def take(self, data):
        """What a machine returns; Refused leaves this object as it is."""
        before = (list(self.sets), list(self.received), list(self.sent), self.read_at, self.write_at)
        many = len(self.sent)
        try:
            self.send()
            for byte in data:
                self.read(byte)
                self.send()
        except Refused:
            self.sets, self.received, self.sent, self.read_at, self.write_at = before
            raise
        return self.sent[many:]

    def read(self, byte):
        sets = self.sets_after(byte)
        if sets is None:
            raise Refused(len(self.received))
        self.sets = sets
        self.received.append(byte)
        self.read_at = self.landed(self.reading, self.read_at + 1)

    def sets_after(self, byte):
        """The sets after the byte, or None if it is unexpected."""
        if self.done:
            return None
        step = self.reading[self.read_at]
        if step[0] == "byte" and byte != step[1] or step[0] == "mark" and byte > 1:
            return None
        if step[0] == "check" and byte != check_byte(step[1], self.received):
            return None
        found = list(self.sets)
        for slot, fits in self.conditions(step, byte):
            found[slot] = {code for code in found[slot] if fits(code)}
            if not found[slot]:
                return None
        return found

    def some_message(self, rng, many):
        """At most so many bytes that this machine, which stays as it is, could take next."""
        before = (self.sets, list(self.received), self.read_at)
        found = []
        while len(found) < many:
            good = [byte for byte in range(256) if self.sets_after(byte) is not None]
            if not good:
                break
            found.append(rng.choice(good))
            self.read(found[-1])
        self.sets, self.received, self.read_at = before
        return found

    def conditions(self, step, byte):
        """Pairs of a slot and a function that tells which codes the slot keeps."""
        if step[0] == "bits":
            return [(slot, lambda code, low=low, width=width, shift=shift:
                     (code >> low) % 2 ** width == (byte >> shift) % 2 ** width) for slot, low, width, shift in step[1]]
        if step[0] == "mark":
            return [(step[1], lambda code: code > step[2] if byte == 1 else code == step[2])]
        if step[0] == "table":
            return [(step[1], lambda code: (code, byte) in step[2])]
        return []

    def send(self):
        while self.write_at < len(self.writing):
            byte = first_byte(self.writing[self.write_at], self.sets, self.sent)
            if byte is None:
                break
            self.sent.append(byte)
            self.write_at = self.landed(self.writing, self.write_at + 1)


def first_byte(step, sets, sent):
    """The byte that a step sends, or None if it is not determined: point 264."""
    if step[0] == "byte":
        return step[1]
    if step[0] == "free":
        return 0
    if step[0] == "check":
        return check_byte(step[1], sent)
    if step[0] == "bits":
        byte = 0
        for slot, low, width, shift in step[1]:
            found = {(code >> low) % 2 ** width for code in sets[slot]}
            if len(found) > 1:
                return None
            byte += found.pop() << shift
        return byte
    if step[0] == "mark":
        if min(sets[step[1]]) > step[2]:
            return 1
        return 0 if sets[step[1]] == {step[2]} else None
    table = dict(step[2])
    found = {table.get(code) for code in sets[step[1]]}
    return found.pop() if len(found) == 1 else None


class PlanMaker:
    """Makes random sound plans with few codes in each slot."""

    def __init__(self, seed):
        self.rng = random.Random(seed)
        self.slots = []

    def plan(self):
        rng = self.rng
        for _ in range(rng.randint(1, 4)):
            base = rng.choice([0, 0, 0, 256, 4294967040])
            codes = rng.sample([0, 1, 2, 3, 4, 5, 6, 7, 8, 127, 128, 255], rng.choice([1, 2, 2, 3, 4, 12]))
            self.slots.append(sorted(base + code for code in codes))
        reading, writing = self.steps(), self.steps()
        return (tuple(entry_of(codes) for codes in self.slots), reading, writing)

    def steps(self):
        rng = self.rng
        many = rng.choice([0, 1, 2, 3, 5, 8, 12])
        found = []
        for place in range(many):
            kind = rng.choice(BYTE_STEPS + ("bits", "bits", "mark", "table", "when", "when", "when", "jump"))
            slot = rng.randrange(len(self.slots))
            code = rng.choice(self.slots[slot] + [rng.randint(0, 8)])
            goal = rng.randint(place + 1, min(many, place + 4))
            found.append({
                "bits": lambda: ("bits", self.pieces()), "byte": lambda: ("byte", rng.choice([0, 1, 7])),
                "free": lambda: ("free",), "check": lambda: ("check", rng.choice(["sum", "xor"])),
                "mark": lambda: ("mark", slot, code), "table": lambda: ("table", slot, self.pairs(slot)),
                "when": lambda: ("when", slot, code, goal), "jump": lambda: ("jump", goal)}[kind]())
        return tuple(found)

    def pieces(self):
        rng = self.rng
        found = []
        shift = rng.choice([0, 0, 1, 4])
        while shift < 8 and (not found or rng.random() < 0.7):
            width = rng.randint(1, 8 - shift)
            low = rng.choice([0, 0, 1, 4, 8, 24, 32 - width])
            found.append((rng.randrange(len(self.slots)), min(low, 32 - width), width, shift))
            shift += width + rng.choice([0, 0, 1])
        rng.shuffle(found)
        return tuple(found)

    def pairs(self, slot):
        rng = self.rng
        codes = [code for code in self.slots[slot] if rng.random() < 0.85] + [9]
        return tuple((code, rng.choice([0, 1, 1, 200])) for code in sorted(set(codes)))


def named_slots(step):
    if step[0] == "bits":
        return {piece[0] for piece in step[1]}
    return {step[1]} if step[0] in ("mark", "table", "when") else set()


def positions_reached(steps):
    """All positions that can be reached from 0, where a when step can go on in both ways."""
    found, todo = set(), [0]
    while todo:
        place = todo.pop()
        if place in found or place >= len(steps):
            continue
        found.add(place)
        step = steps[place]
        todo += [step[-1]] if step[0] in ("when", "jump") else []
        todo += [place + 1] if step[0] != "jump" else []
    return found


def folding_faults(plan, folded):
    """What point 266 asks of a folded plan and does not hold; [] if everything holds."""
    slots, *parts = folded
    found = []
    for before, steps in zip(plan[1:], parts):
        if len(steps) > len(before):
            found.append("more steps")
        if positions_reached(steps) != set(range(len(steps))):
            found.append("a position that cannot be reached")
        for step in steps:
            if step[0] == "when":
                entry = slots[step[1]]
                if not has_code(entry, step[2]) or entry == entry_of([step[2]]):
                    found.append("a when step that is decided")
    named = set().union(*[named_slots(step) for steps in parts for step in steps])
    if named != set(range(len(slots))):
        found.append("slots that no step names, or that the plan does not have")
    sets = [telling_codes(entry) for entry in slots]
    for step in parts[1]:
        if step[0] in ("bits", "mark", "table") and first_byte(step, sets, []) is not None:
            found.append("a byte that is determined at the beginning")
    return found
