"""Messages: which records have one, the facts about a record, and the bytes that are written.

The bytes are written from a pattern, as far as it determines them. A record is
written from its pattern alone, which determines all bytes of its message.
"""

from bytebridge.errors import InvalidMember
from bytebridge.facts import certain_facts
from bytebridge.integers import all_bits, common_bits, is_allowed, set_of
from bytebridge.layouts import allowed_numbers, by_item, count_of, described_members, element_of
from bytebridge.layouts import items_by_case, numbers_by_case, word_fields
from bytebridge.numbers import store, word_size
from bytebridge.patterns import single


def first_invalid(layout, record):
    """Return the path of the first value of a record that is not allowed, or None."""
    for member, value in zip(described_members(layout), record):
        path = first_invalid_in(member, value)
        if path is not None:
            return path
    return None


def first_invalid_in(member, value):
    """Return the path of the first value that is not allowed in the value of a member, or None."""
    rest = invalid_rest(member, value)
    if rest is None:
        return None
    return member[1] + rest


def invalid_rest(member, value):
    """Return the rest of the path that first_invalid_in returns, behind the path of the member, or None."""
    kind = member[0]
    if kind == "integer":
        return None if is_allowed(member, value) else ""
    if kind == "choice":
        name, record = value
        items = items_by_case(member[3])
        return joined(".value.", first_invalid(items[name], record)) if name in items else ""
    if kind == "record":
        return joined(".", first_invalid(member[2], value))
    if len(value) not in allowed_numbers(count_of(member)):
        return ""
    element = element_of(member)
    for index, part in enumerate(value):
        rest = invalid_rest(element, part)
        if rest is not None:
            return f"[{index}]{rest}"
    return None


def joined(start, path):
    """Return the path with start before it, or None if there is no path."""
    if path is None:
        return None
    return start + path


def write_message(layout, record):
    """Return the list of the bytes of the message that is written for a record."""
    path = first_invalid(layout, record)
    if path is not None:
        raise InvalidMember(path)
    data = []
    put_items(layout, single(layout, record), data)
    return data


def facts_of(layout, record):
    """Return the list of the facts about a record with allowed values."""
    return certain_facts(layout, single(layout, record))


def check_byte(method, data):
    """Return the check byte behind all bytes of a message before it."""
    if method == "sum":
        return sum(data) & 255
    byte = 0
    for other in data:
        byte = byte ^ other
    return byte


def put_items(layout, pattern, data):
    """Append the determined bytes of a layout to the bytes of the message before them.

    This function and the following ones tell whether all bytes are determined.
    """
    for item, entries in by_item(layout, pattern):
        if not put_item(item, entries, data):
            return False
    return True


def put_item(item, entries, data):
    """Append the determined bytes of an item, given the entries of its members."""
    kind = item[0]
    if kind == "word":
        _, word, parts = item
        return put_word(word, word_fields(word, parts), entries, data)
    if kind in ("array", "list"):
        return put_counts(item, entries[0], data)
    if kind == "choice":
        return put_choice(item, entries[0], data)
    if kind == "record":
        return put_items(item[2], entries[0], data)
    if kind == "literal":
        data.extend(item[1])
    elif kind == "reserved":
        data.extend([0] * item[1])
    else:
        data.append(check_byte(item[1], data))
    return True


def put_word(word, fields, entries, data):
    """Append the determined bytes of a word, given the entries of its fields."""
    unknown = 0
    code = 0
    for (_, low, width), entry in zip(fields, entries):
        known, common = common_bits(entry, width)
        unknown = unknown | ((all_bits(width) ^ known) << low)
        code = code | (common << low)
    for byte, unknown_bits in zip(store(word, code), store(word, unknown)):
        if unknown_bits:
            return False
        data.append(byte)
    return True


def put_code(word, entry, data):
    """Append the determined bytes of a word that stores one integer, given its integer set."""
    return put_word(word, [("", 0, 8 * word_size(word))], [entry], data)


def put_one_of(word, codes, data):
    """Append the determined bytes of a word that stores one of some codes."""
    return put_code(word, set_of(sorted(codes), 8 * word_size(word)), data)


def put_counts(item, entry, data):
    """Append the determined bytes of an array or a list."""
    _, numbers, entries = entry
    count = count_of(item)
    if count[0] == "marked":
        return put_marked(item, entry, data)
    if count[0] == "counted" and not put_one_of(count[1], numbers, data):
        return False
    # The number of elements is determined now, so all entries belong to elements.
    for part in entries:
        if not put_element(item, part, data):
            return False
    return True


def put_marked(item, entry, data):
    """Append the determined bytes of an array or a list with marks."""
    _, numbers, entries = entry
    for part in entries[:numbers[0]]:
        data.append(1)
        if not put_element(item, part, data):
            return False
    # After the least possible number of elements a further one can follow, or none.
    if len(numbers) > 1:
        return False
    data.append(0)
    return True


def put_element(item, entry, data):
    """Append the determined bytes of an element of an array or a list."""
    if item[0] == "list":
        return put_items(item[3], entry, data)
    return put_code(item[2], entry, data)


def put_choice(item, entry, data):
    """Append the determined bytes of a choice."""
    _, _, word, cases = item
    numbers = numbers_by_case(cases)
    if not put_one_of(word, [numbers[name] for name, _ in entry[1]], data):
        return False
    # The numbers of cases differ, so only one case is possible now.
    name, pattern = entry[1][0]
    return put_items(items_by_case(cases)[name], pattern, data)
