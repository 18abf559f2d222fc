"""Views: access to the integers of a message where they are stored.

The field of an integer is a tuple (offset, word, low, member): the offset of a
word in the message, the word, the least bit of the field in the word, and the
description of the integer that bytebridge.layouts makes. The functions place_..
walk through a message. They add the fields to a dict, by their paths, and the
check bytes to a list, as pairs (offset, method), and they return the offset
behind what they walked through.
"""

from bytebridge.errors import InvalidMember, UnknownField
from bytebridge.integers import is_allowed
from bytebridge.layouts import by_item, count_bytes, count_of, element_of, item_members, items_by_case
from bytebridge.layouts import plain_size, word_fields, NAMED_ITEMS
from bytebridge.messages import check_byte
from bytebridge.numbers import bits_at, code_of, fetch, number_of, store, word_size
from bytebridge.reading import read_message


class View:
    """Gives access to the integers of a message by their paths."""

    def __init__(self, layout, data):
        record = read_message(layout, data)
        self._content = list(data)
        self._fields = {}
        self._checks = []
        place_items(layout, record, "", 0, self._fields, self._checks)

    @property
    def content(self):
        """The list of the bytes of the message as they are at this time."""
        return list(self._content)

    def field(self, path):
        """Return the field with a name, and the code of its word."""
        if path not in self._fields:
            raise UnknownField(path)
        offset, word, low, member = self._fields[path]
        code = fetch(word, self._content[offset:offset + word_size(word)])
        return (offset, word, low, member, code)

    def __getitem__(self, path):
        _, _, low, member, code = self.field(path)
        _, _, width, signed, _, _ = member
        return number_of(bits_at(code, low, width), width, signed)

    def __setitem__(self, path, number):
        offset, word, low, member, code = self.field(path)
        if not is_allowed(member, number):
            raise InvalidMember(path)
        width = member[2]
        others = code ^ (bits_at(code, low, width) << low)
        self._content[offset:offset + word_size(word)] = store(word, others | (code_of(number, width) << low))
        for place, method in self._checks:
            self._content[place] = check_byte(method, self._content[:place])

    def __contains__(self, path):
        return path in self._fields

    def __iter__(self):
        return iter(self._fields)

    def __len__(self):
        return len(self._fields)

    def poke(self, place, byte):
        """Replace one byte of the content and nothing else."""
        self._content[place] = byte


def place_items(layout, record, start, offset, fields, checks):
    """Walk through the items of a layout; start is what stands before the names of its members in their paths."""
    for item, values in by_item(layout, record):
        if item[0] in NAMED_ITEMS:
            offset = place_member(item, values[0], start + item[1], offset, fields, checks)
        else:
            place_plain(item, start, offset, fields, checks)
            offset += plain_size(item)
    return offset


def place_plain(item, start, offset, fields, checks):
    """Add the fields of a word or a check byte; the other items of a fixed size have neither."""
    if item[0] == "word":
        _, word, parts = item
        for (name, low, _), member in zip(word_fields(word, parts), item_members(item)):
            fields[start + name] = (offset, word, low, member)
    elif item[0] == "check":
        checks.append((offset, item[1]))


def place_member(item, value, path, offset, fields, checks):
    """Walk through an array, a list, a choice or a record."""
    kind = item[0]
    if kind == "choice":
        _, _, word, cases = item
        name, record = value
        items = items_by_case(cases)[name]
        return place_items(items, record, path + ".value.", offset + word_size(word), fields, checks)
    if kind == "record":
        return place_items(item[2], value, path + ".", offset, fields, checks)
    head, mark = count_bytes(count_of(item))
    offset += head
    for index, part in enumerate(value):
        offset = place_element(item, part, f"{path}[{index}]", offset + mark, fields, checks)
    return offset + mark


def place_element(item, value, path, offset, fields, checks):
    """Walk through an element of an array or a list."""
    if item[0] == "list":
        return place_items(item[3], value, path + ".", offset, fields, checks)
    word = item[2]
    fields[path] = (offset, word, 0, element_of(item))
    return offset + word_size(word)
