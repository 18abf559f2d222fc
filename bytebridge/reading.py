"""Reading messages byte by byte: which records are possible after the bytes received so far.

The functions read_.. take the entries of a start pattern and return the entries
after the bytes that they read. Where the bytes end, the entries stay as they are.
"""

from bytebridge.errors import UnexpectedByte, UnexpectedEnd
from bytebridge.facts import certain_facts
from bytebridge.integers import contains, kept, set_of
from bytebridge.layouts import by_item, count_of, items_by_case, numbers_by_case, word_fields
from bytebridge.messages import check_byte
from bytebridge.numbers import bits_at, fetch, word_size
from bytebridge.patterns import only, whole


class Scan:
    """The bytes of a message received so far, and how many of them have been read.

    It is short as soon as a byte was wanted that has not been received.
    """

    def __init__(self, data):
        self.data = data
        self.place = 0
        self.short = False

    def next_bytes(self, size):
        """Return the list of the next bytes, fewer than size if no more have been received."""
        found = self.data[self.place:self.place + size]
        self.place += len(found)
        if len(found) < size:
            self.short = True
        return found

    def expect(self, byte):
        """Read one byte, which must be this one if it has been received."""
        found = self.next_bytes(1)
        if found and found[0] != byte:
            raise UnexpectedByte(self.place - 1)


def possible(layout, data, *, start=None):
    """Return the pattern of the records that are possible after the bytes, and whether these are complete."""
    if start is None:
        start = whole(layout)
    scan = Scan(data)
    pattern = read_items(layout, start, scan)
    if not scan.short and scan.place < len(data):
        raise UnexpectedByte(scan.place)
    return (pattern, not scan.short)


def read_message(layout, data):
    """Return the record that a whole message stores."""
    pattern, complete = possible(layout, data)
    if not complete:
        raise UnexpectedEnd()
    return only(layout, pattern)


def certain(layout, pattern):
    """Return the list of the facts that are certain in a pattern, in order."""
    return certain_facts(layout, pattern)


class Reader:
    """Reads one message whose bytes arrive in pieces, and returns the facts as they become certain."""

    def __init__(self, layout):
        self._layout = layout
        self._received = []
        self._told = {}
        self._pattern, self.done = possible(layout, [])

    @property
    def received(self):
        """The list of all bytes received so far."""
        return list(self._received)

    def take(self, data):
        """Receive further bytes and return the list of the new facts."""
        received = self._received + data
        # What was possible before is a start pattern for all bytes, and a smaller one than the whole pattern.
        pattern, complete = possible(self._layout, received, start=self._pattern)
        found = [fact for fact in certain(self._layout, pattern) if fact not in self._told]
        for fact in found:
            self._told[fact] = True
        self._received = received
        self._pattern = pattern
        self.done = complete
        return found


def read_items(layout, pattern, scan):
    """Read the items of a layout and return its pattern."""
    found = []
    for item, entries in by_item(layout, pattern):
        if scan.short:
            found.extend(entries)
        else:
            found.extend(read_item(item, entries, scan))
    return tuple(found)


def read_item(item, entries, scan):
    """Read an item and return the entries of its members."""
    kind = item[0]
    if kind == "word":
        _, word, parts = item
        return read_word(word, word_fields(word, parts), entries, scan)
    if kind in ("array", "list"):
        return (read_counts(item, entries[0], scan),)
    if kind == "choice":
        return (read_choice(item, entries[0], scan),)
    if kind == "record":
        return (read_items(item[2], entries[0], scan),)
    read_fixed(item, scan)
    return ()


def read_fixed(item, scan):
    """Read an item that says nothing about the record."""
    kind = item[0]
    if kind == "literal":
        for byte in item[1]:
            scan.expect(byte)
    elif kind == "reserved":
        scan.next_bytes(item[1])
    else:
        scan.expect(check_byte(item[1], scan.data[:scan.place]))


def read_word(word, fields, entries, scan):
    """Read a word and return the entries of its fields."""
    first = scan.place
    received = scan.next_bytes(word_size(word))
    found = agreeing(word, fields, entries, received)
    if None in found:
        raise UnexpectedByte(first + least_wrong(word, fields, entries, received))
    return found


def agreeing(word, fields, entries, received):
    """Return the list of the entries of the fields after the first bytes of a word; None for what has none."""
    missing = [0] * (word_size(word) - len(received))
    known = fetch(word, [255] * len(received) + missing)
    code = fetch(word, received + missing)
    found = []
    for (_, low, width), entry in zip(fields, entries):
        found.append(kept(entry, width, bits_at(known, low, width), bits_at(code, low, width)))
    return found


def least_wrong(word, fields, entries, received):
    """Return the least index of a byte of a word with which no integer of some field agrees any more."""
    many = 1
    while None not in agreeing(word, fields, entries, received[:many]):
        many += 1
    return many - 1


def read_code(word, entry, scan):
    """Read a word that stores one integer and return its integer set."""
    return read_word(word, [("", 0, 8 * word_size(word))], [entry], scan)[0]


def read_one_of(word, codes, scan):
    """Read a word that stores one of some codes, and return the list of those that agree with its bytes."""
    width = 8 * word_size(word)
    entry = read_code(word, set_of(sorted(codes), width), scan)
    return [code for code in codes if contains(entry, width, code)]


def read_counts(item, entry, scan):
    """Read an array or a list and return its entry."""
    _, numbers, entries = entry
    count = count_of(item)
    if count[0] == "marked":
        return read_marked(item, entry, scan)
    if count[0] == "counted":
        numbers = tuple(read_one_of(count[1], numbers, scan))
    found = []
    for part in entries[:numbers[-1]]:
        found.append(read_element(item, part, scan))
    return ("counts", numbers, tuple(found))


def read_marked(item, entry, scan):
    """Read an array or a list with marks and return its entry."""
    _, numbers, entries = entry
    found = list(entries)
    for index in range(len(entries) + 1):
        mark = scan.next_bytes(1)
        if mark:
            numbers = numbers_after_mark(numbers, index, mark[0], scan.place - 1)
        if mark != [1]:
            break
        found[index] = read_element(item, entries[index], scan)
    return ("counts", numbers, tuple(found[:numbers[-1]]))


def numbers_after_mark(numbers, index, mark, place):
    """Return those numbers of elements that agree with the mark before the element at an index."""
    left = ()
    if mark == 1:
        left = tuple([number for number in numbers if number > index])
    elif mark == 0:
        left = tuple([number for number in numbers if number == index])
    if not left:
        raise UnexpectedByte(place)
    return left


def read_element(item, entry, scan):
    """Read an element of an array or a list and return its entry."""
    if scan.short:
        return entry
    if item[0] == "list":
        return read_items(item[3], entry, scan)
    return read_code(item[2], entry, scan)


def read_choice(item, entry, scan):
    """Read a choice and return its entry."""
    _, _, word, cases = item
    numbers = numbers_by_case(cases)
    codes = read_one_of(word, [numbers[name] for name, _ in entry[1]], scan)
    left = tuple([(name, pattern) for name, pattern in entry[1] if numbers[name] in codes])
    if scan.short:
        return ("cases", left)
    # The numbers of cases differ, so all bytes of the word leave only one case.
    name, pattern = left[0]
    return ("cases", ((name, read_items(items_by_case(cases)[name], pattern, scan)),))
