"""How late the bytes of a conversion can be sent: greatest values over all convertible records.

The classes stand for matched values. They have two methods with the same
meaning. The weights a and c are integers that are not negative.

widest(a, c) returns a triple (x, y, value): a convertible value for which
a * x - c * y is greatest, where x and y are its numbers of bytes in the source
and in the target.

latest(a, c) returns such a triple, or None if there is none: a byte at the
offset y of the value in the target needs the first x bytes of the value in the
source, where x is not 0.

Different values vary independently, so greatest values of sums are sums of
greatest values. A weight 0 makes a value as large or as small as possible on
one side, without regard to the other one.
"""

from bytebridge.integers import allowed_ranges
from bytebridge.layouts import allowed_numbers, count_bytes, count_of, described_members, element_of, item_sizes
from bytebridge.layouts import items_by_case, numbers_by_case, plain_size, sizes, word_fields, NAMED_ITEMS
from bytebridge.matching import default_value
from bytebridge.messages import put_item
from bytebridge.needs import number_needs, telling_codes, word_needs
from bytebridge.numbers import number_of, word_size
from bytebridge.patterns import single_entry


def late_value(member, source, target, entry):
    """Return the object for a matched member, given its description in the source and its entry.

    On either side an integer is given by a triple (word, low, width), another member by its item.
    """
    kind = member[0]
    if kind == "integer":
        return LateInteger(source, target, member, entry)
    if kind == "choice":
        return LateChoice(source, target, entry)
    if kind == "record":
        return LateScope(source[2], target[2], entry)
    return LateSequence(source, target, entry)


def late_element(source, target, entry):
    """Return the object for the elements of matched arrays or lists, given their entry in the source."""
    if source[0] == "list":
        return LateScope(source[3], target[3], entry)
    return LateInteger(whole_word(source[2]), whole_word(target[2]), element_of(source), entry)


def whole_word(word):
    """Return the triple of a field that fills a word."""
    return (word, 0, 8 * word_size(word))


def greatest_of(triples, a, c):
    """Return the first one of the triples for which a * x - c * y is greatest, or None if there are none."""
    found = None
    for triple in triples:
        if found is None or weighed(triple, a, c) > weighed(found, a, c):
            found = triple
    return found


def weighed(triple, a, c):
    """Return a * x - c * y for a triple."""
    x, y, _ = triple
    return a * x - c * y


class LateInteger:
    """A matched integer: a field of a word on either side. An element of an array fills the two words."""

    def __init__(self, source, target, member, entry):
        _, _, width, signed, _, _ = member
        codes = telling_codes(entry, width)
        needs = word_needs(source, target, [(code, code) for code in codes])
        self._needs = [(needed, place, number_of(code, width, signed)) for needed, place, code in needs]
        self._sizes = (word_size(source[0]), word_size(target[0]), number_of(codes[0], width, signed))

    def widest(self, a, c):
        """Return the sizes of the words, whatever the weights are, and any integer."""
        return self._sizes

    def latest(self, a, c):
        """Return the latest byte, and an integer for which it is so late."""
        return greatest_of(self._needs, a, c)


class LateChoice:
    """A matched choice."""

    def __init__(self, source, target, entry):
        items = items_by_case(source[3])
        other_items = items_by_case(target[3])
        self._sizes = (word_size(source[2]), word_size(target[2]))
        self._scopes = {name: LateScope(items[name], other_items[name], pattern) for name, pattern in entry[1]}
        self._needs = self.case_needs(source, target)

    def case_needs(self, source, target):
        """Return the triples of the bytes of the number of the case."""
        numbers = numbers_by_case(source[3])
        other_numbers = numbers_by_case(target[3])
        pairs = [(numbers[name], other_numbers[name]) for name in self._scopes]
        names = {numbers[name]: name for name in self._scopes}
        found = []
        for needed, place, number in word_needs(whole_word(source[2]), whole_word(target[2]), pairs):
            name = names[number]
            _, _, record = self._scopes[name].widest(0, 0)
            found.append((needed, place, (name, record)))
        return found

    def behind_number(self, name, triple):
        """Return a triple of a case as a triple of the choice."""
        x, y, record = triple
        size, other_size = self._sizes
        return (size + x, other_size + y, (name, record))

    def widest(self, a, c):
        """Return the greatest sizes of all cases."""
        found = [self.behind_number(name, scope.widest(a, c)) for name, scope in self._scopes.items()]
        return greatest_of(found, a, c)

    def latest(self, a, c):
        """Return the latest byte of the number of the case, or of a case."""
        found = list(self._needs)
        for name, scope in self._scopes.items():
            triple = scope.latest(a, c)
            if triple is not None:
                found.append(self.behind_number(name, triple))
        return greatest_of(found, a, c)


class LateSequence:
    """A matched array or list. The sizes of an element include the mark before it."""

    def __init__(self, source, target, entry):
        _, numbers, entries = entry
        self._least = numbers[0]
        self._most = numbers[-1]
        self._head, self._mark = count_bytes(count_of(source))
        self._other_head, self._other_mark = count_bytes(count_of(target))
        self._needs = number_needs(count_of(source), count_of(target), numbers)
        # Without any element there is no entry for one, and nothing depends on the number.
        self._part = late_element(source, target, entries[0]) if entries else None

    def step(self, a, c):
        """Return the greatest sizes of an element."""
        if self._part is None:
            return (0, 0, None)
        x, y, value = self._part.widest(a, c)
        return (self._mark + x, self._other_mark + y, value)

    def widest(self, a, c):
        """Return the greatest sizes of the least or of the greatest number of elements."""
        x, y, value = self.step(a, c)
        number = self._most if a * x - c * y > 0 else self._least
        # The mark behind the last element belongs to no element.
        size = self._head + number * x + self._mark
        other_size = self._other_head + number * y + self._other_mark
        return (size, other_size, (value,) * number)

    def latest(self, a, c):
        """Return the latest byte of the number of elements, or of an element."""
        if self._part is None:
            return None
        step = self.step(a, c)
        found = [self.with_number(need, step) for need in self._needs]
        triple = self._part.latest(a, c)
        if triple is not None:
            found.append(self.with_part(0, triple, step))
            found.append(self.with_part(self._most - 1, triple, step))
        return greatest_of(found, a, c)

    def with_number(self, need, step):
        """Return the triple of a need of the number of elements, given the greatest sizes of an element."""
        needed, place, before, other_before, number = need
        x, y, value = step
        shared = min(before, other_before)
        # An element that counts on one side only is as large there, or as small there, as it can be.
        longest, _, long_value = self.step(1, 0)
        _, shortest, short_value = self.step(0, 1)
        values = (value,) * shared + (long_value,) * (before - shared) + (short_value,) * (other_before - shared)
        needed += shared * x + (before - shared) * longest
        place += shared * y + (other_before - shared) * shortest
        return (needed, place, values + (value,) * (number - len(values)))

    def with_part(self, index, triple, step):
        """Return the triple of a byte of the element with an index, given the greatest sizes of an element."""
        needed, place, inner = triple
        x, y, value = step
        needed += self._head + index * x + self._mark
        place += self._other_head + index * y + self._other_mark
        return (needed, place, (value,) * index + (inner,) + (value,) * (self._most - index - 1))


class LateMember:
    """A matched member of a scope, with the indexes of its items in the source and in the target.

    The place is its place among the members of the source.
    """

    def __init__(self, place, index, other_index, late):
        self.place = place
        self.index = index
        self.other_index = other_index
        self.late = late
        self._longest = late.widest(1, 0)
        self._shortest = late.widest(0, 1)

    def before(self, other, widest):
        """Return a triple of the bytes that this member has before another one, and a value for which it has them.

        The triple widest is what this member has for the weights if it precedes the other one on both sides.
        """
        precedes = self.index < other.index
        if precedes and self.other_index < other.other_index:
            return widest
        if precedes:
            return (self._longest[0], 0, self._longest[2])
        if self.other_index < other.other_index:
            return (0, self._shortest[1], self._shortest[2])
        return (0, 0, widest[2])


class LateScope:
    """Two matched scopes, given by their items."""

    def __init__(self, source, target, pattern):
        others = {name: (index, item) for name, index, item in placed_members(target)}
        sources = {}
        self._matched = []
        self._nested = []
        self._values = []
        for (name, index, item), member, entry in zip(placed_members(source), described_members(source), pattern):
            sources[name] = True
            value = largest(member)
            if name in others:
                other_index, other = others[name]
                late = LateMember(len(self._values), index, other_index, late_value(member, item, other, entry))
                self._matched.append(late)
                if member[0] != "integer":
                    self._nested.append(late)
                _, _, value = late.late.widest(0, 0)
            self._values.append(value)
        self._offsets = offsets_of([fixed_size(item, others) for item in source])
        self._other_offsets = offsets_of([default_size(item, sources) for item in target])

    def widest(self, a, c):
        """Return the greatest sizes of the two scopes."""
        x = self._offsets[-1]
        y = self._other_offsets[-1]
        values = list(self._values)
        for member in self._nested:
            size, other_size, value = member.late.widest(a, c)
            x += size
            y += other_size
            values[member.place] = value
        return (x, y, tuple(values))

    def latest(self, a, c):
        """Return the latest byte of the two scopes."""
        widest = [member.late.widest(a, c) for member in self._nested]
        offsets = {}
        found = []
        for member in self._matched:
            triple = member.late.latest(a, c)
            if triple is not None:
                where = (member.index, member.other_index)
                if where not in offsets:
                    offsets[where] = self.offset_before(member, widest)
                x, y = offsets[where]
                found.append((x + triple[0], y + triple[1], (member, triple[2])))
        triple = greatest_of(found, a, c)
        if triple is None:
            return None
        x, y, (member, value) = triple
        return (x, y, self.record_with(member, value, widest))

    def offset_before(self, member, widest):
        """Return the numbers of bytes before a member, given the greatest sizes of the nested members."""
        x = self._offsets[member.index]
        y = self._other_offsets[member.other_index]
        for other, triple in zip(self._nested, widest):
            size, other_size, _ = other.before(member, triple)
            x += size
            y += other_size
        return (x, y)

    def record_with(self, member, value, widest):
        """Return a record in which a member has a value and has so many bytes before it."""
        values = list(self._values)
        for other, triple in zip(self._nested, widest):
            _, _, before = other.before(member, triple)
            values[other.place] = before
        values[member.place] = value
        return tuple(values)


def placed_members(layout):
    """Return the list of triples (name, index of the item, item), one for each member of a layout in order.

    An integer has the triple (word, low, width) of its field in place of the item.
    """
    found = []
    for index, item in enumerate(layout):
        if item[0] == "word":
            _, word, parts = item
            found.extend([(name, index, (word, low, width)) for name, low, width in word_fields(word, parts)])
        elif item[0] in NAMED_ITEMS:
            found.append((item[1], index, item))
    return found


def largest(member):
    """Return an allowed value of a member that has the most bytes."""
    kind = member[0]
    if kind == "integer":
        low, _ = allowed_ranges(member)[0]
        return low
    if kind == "choice":
        longest = max([sizes(items)[1] for _, _, items in member[3]])
        found = [(name, items) for _, name, items in member[3] if sizes(items)[1] == longest]
        name, items = found[0]
        return (name, tuple([largest(inner) for inner in described_members(items)]))
    if kind == "record":
        return tuple([largest(inner) for inner in described_members(member[2])])
    return (largest(element_of(member)),) * allowed_numbers(count_of(member))[-1]


def fixed_size(item, matched):
    """Return the greatest size of an item of the source; 0 for a matched one whose size depends on its value."""
    if item[0] not in NAMED_ITEMS:
        return plain_size(item)
    if item[1] in matched:
        return 0
    _, longest = item_sizes(item)
    return longest


def default_size(item, matched):
    """Return the size of an item of the target; 0 for a matched one whose size depends on its value."""
    if item[0] not in NAMED_ITEMS:
        return plain_size(item)
    if item[1] in matched:
        return 0
    data = []
    put_item(item, [single_entry(item, default_value(item))], data)
    return len(data)


def offsets_of(item_sizes_in_order):
    """Return the list of the offsets of items, and of the end behind them."""
    found = [0]
    for size in item_sizes_in_order:
        found.append(found[-1] + size)
    return found
