"""Machines: they run plans and know no layouts."""

from bytebridge.errors import BadPlan, UnexpectedByte
from bytebridge.steps import goal_of, known_byte, only_code, set_after_mark, set_from_table, set_with_bits, slots_of

# What check bytes depend on: the number of bytes, their sum modulo 256, and their bitwise exclusive or.
NO_BYTES = (0, 0, 0)


def flaw(plan):
    """Return the part and the position of the first bad step of a plan, or None if the plan is sound."""
    slots, reading, writing = plan
    for part, steps in [("reading", reading), ("writing", writing)]:
        for place, step in enumerate(steps):
            if is_bad(step, place, len(steps), len(slots)):
                return (part, place)
    return None


def is_bad(step, place, end, many_slots):
    """Tell whether a step at a position is bad."""
    goal = goal_of(step)
    if goal is not None and not place < goal <= end:
        return True
    return any([slot >= many_slots for slot in slots_of(step)])


def after_byte(line, byte):
    """Return what check bytes depend on after one more byte."""
    many, total, parity = line
    return (many + 1, (total + byte) & 255, parity ^ byte)


def check_after(line, method):
    """Return the check byte of the bytes so far."""
    _, total, parity = line
    return total if method == "sum" else parity


class Run:
    """The state of a machine: the sets of the slots, the two positions, and what check bytes depend on."""

    def __init__(self, plan, smaller, places, lines):
        self.plan = plan
        # Only the sets that have become smaller; all others are those of the plan.
        self.smaller = smaller
        self.read_place, self.write_place = places
        self.read_line, self.written_line = lines

    def copied(self):
        """Return a state that can be changed without any effect on this one."""
        places = (self.read_place, self.write_place)
        return Run(self.plan, dict(self.smaller), places, (self.read_line, self.written_line))

    def possible_in(self, slot):
        """Return the set of the possible codes of a slot."""
        slots, _, _ = self.plan
        return self.smaller.get(slot, slots[slot])

    def landed(self, steps, place):
        """Return the position at which steps that stand for no byte end, beginning at a position."""
        while place < len(steps) and goal_of(steps[place]) is not None:
            step = steps[place]
            if step[0] == "jump" or only_code(self.possible_in(step[1])) == step[2]:
                place = goal_of(step)
            else:
                place += 1
        return place

    def has_read_all(self):
        """Tell whether the position in reading is at the end."""
        _, reading, _ = self.plan
        return self.read_place == len(reading)

    def read(self, byte):
        """Read one received byte."""
        _, reading, _ = self.plan
        if self.has_read_all() or not self.agrees(reading[self.read_place], byte):
            raise UnexpectedByte(self.read_line[0])
        self.read_line = after_byte(self.read_line, byte)
        self.read_place = self.landed(reading, self.read_place + 1)

    def agrees(self, step, byte):
        """Make sets smaller by a byte that a step reads, and tell whether it is one that can be there."""
        kind = step[0]
        if kind == "bits":
            # Several pieces can name one slot, so each one looks at what the others have left.
            for piece in step[1]:
                if not self.keep(piece[0], set_with_bits(self.possible_in(piece[0]), piece, byte)):
                    return False
            return True
        if kind == "mark":
            return self.keep(step[1], set_after_mark(self.possible_in(step[1]), step[2], byte))
        if kind == "table":
            return self.keep(step[1], set_from_table(self.possible_in(step[1]), step[2], byte))
        if kind == "byte":
            return byte == step[1]
        return kind == "free" or byte == check_after(self.read_line, step[1])

    def keep(self, slot, entry):
        """Give a slot a smaller set; tell whether there is one."""
        if entry is None:
            return False
        self.smaller[slot] = entry
        return True

    def send(self):
        """Return the list of the bytes that can be sent now, and go on behind them."""
        _, _, writing = self.plan
        found = []
        while self.write_place < len(writing):
            byte = self.next_byte(writing[self.write_place])
            if byte is None:
                break
            found.append(byte)
            self.written_line = after_byte(self.written_line, byte)
            self.write_place = self.landed(writing, self.write_place + 1)
        return found

    def next_byte(self, step):
        """Return the byte that a step sends, or None if it is not determined."""
        kind = step[0]
        if kind == "byte":
            return step[1]
        if kind == "free":
            return 0
        if kind == "check":
            return check_after(self.written_line, step[1])
        return known_byte(step, [self.possible_in(slot) for slot in slots_of(step)])


def new_run(plan):
    """Return the state of a machine at the beginning."""
    _, reading, writing = plan
    run = Run(plan, {}, (0, 0), (NO_BYTES, NO_BYTES))
    run.read_place = run.landed(reading, run.read_place)
    run.write_place = run.landed(writing, run.write_place)
    return run


class Machine:
    """Runs a plan: receives the bytes of a message in pieces, and sends others."""

    def __init__(self, plan):
        found = flaw(plan)
        if found is not None:
            part, place = found
            raise BadPlan(part, place)
        self._run = new_run(plan)
        self._received = []
        self._sent = []
        self.done = self._run.has_read_all()

    @property
    def received(self):
        """The list of all bytes received so far."""
        return list(self._received)

    @property
    def sent(self):
        """The list of all bytes returned so far."""
        return list(self._sent)

    def take(self, data):
        """Receive further bytes and return the list of the bytes that are sent now."""
        # If a byte is unexpected, the state before stays as it is.
        run = self._run.copied()
        found = run.send()
        for byte in data:
            run.read(byte)
            found.extend(run.send())
        self._run = run
        self._received.extend(data)
        self._sent.extend(found)
        self.done = run.has_read_all()
        return found
