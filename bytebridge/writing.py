"""Writing messages from partial knowledge: the bytes that are determined, and what the next one waits for."""

from bytebridge.errors import AlreadySet, InvalidMember, UnknownMember
from bytebridge.integers import all_bits, common_bits
from bytebridge.layouts import by_item, described_members, word_fields
from bytebridge.messages import first_invalid_in, put_item, put_items
from bytebridge.numbers import store
from bytebridge.patterns import whole, with_member


def determined(layout, pattern):
    """Return the list of the bytes with which the messages of all records of a pattern begin."""
    data = []
    put_items(layout, pattern, data)
    return data


def blockers(layout, pattern):
    """Return the list of the names of the members for which the first byte that is not determined waits."""
    data = []
    for item, entries in by_item(layout, pattern):
        first = len(data)
        if not put_item(item, entries, data):
            return item_blockers(item, entries, len(data) - first)
    return []


def item_blockers(item, entries, place):
    """Return the list of the names of the members of an item that leave its byte at a place open."""
    if item[0] != "word":
        return [item[1]]
    _, word, parts = item
    found = []
    for (name, low, width), entry in zip(word_fields(word, parts), entries):
        known, _ = common_bits(entry, width)
        if store(word, (all_bits(width) ^ known) << low)[place]:
            found.append(name)
    return found


class Composer:
    """Writes one message whose members become known in any order."""

    def __init__(self, layout):
        self._layout = layout
        self._members = {member[1]: member for member in described_members(layout)}
        self._pattern = whole(layout)
        self._known = {}
        self._taken = []

    @property
    def taken(self):
        """The list of all bytes that have been taken."""
        return list(self._taken)

    def put(self, name, value):
        """Set a member of the layout."""
        if name not in self._members:
            raise UnknownMember(name)
        if name in self._known:
            raise AlreadySet(name)
        path = first_invalid_in(self._members[name], value)
        if path is not None:
            raise InvalidMember(path)
        self._pattern = with_member(self._layout, self._pattern, name, value)
        self._known[name] = True

    def take(self):
        """Return the list of the determined bytes that have not been taken before."""
        data = determined(self._layout, self._pattern)
        found = data[len(self._taken):]
        self._taken = data
        return found

    def blockers(self):
        """Return the list of the names of the blockers."""
        return blockers(self._layout, self._pattern)
