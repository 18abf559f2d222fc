"""Layouts: the members that they define and the sizes of their messages.

The other modules walk through layouts with the descriptions of members that are
made here. The description of an integer is ("integer", name, width, signed,
ranges, default); a member of another kind is described by its item. So each
description begins with the kind and the name of the member.

Sizes are pairs: the least and the greatest number of bytes. The values of a
record vary independently, so the pairs of items can be added.
"""

from bytebridge.numbers import word_size

NAMED_ITEMS = ("array", "list", "choice", "record")


def members(layout):
    """Return a tuple of pairs (name, kind), one for each member of a layout in order."""
    return tuple([(member[1], member[0]) for member in described_members(layout)])


def described_members(layout):
    """Return the list of the descriptions of the members of a layout in order."""
    found = []
    for item in layout:
        found.extend(item_members(item))
    return found


def item_members(item):
    """Return the list of the descriptions of the members that one item defines."""
    kind = item[0]
    if kind == "word":
        return [("integer",) + part for part in item[2] if part[0] is not None]
    if kind in NAMED_ITEMS:
        return [item]
    return []


def by_item(layout, values):
    """Return a list of pairs: each item of a layout, and those of the values that belong to its members.

    There is one value for each member of the layout, in order.
    """
    found = []
    first = 0
    for item in layout:
        behind = first + len(item_members(item))
        found.append((item, values[first:behind]))
        first = behind
    return found


def element_of(member):
    """Return the description of the elements of an array or a list.

    An element of an array is an integer. An element of a list is a record of its items.
    """
    if member[0] == "list":
        _, name, _, items = member
        return ("record", name, items)
    _, name, word, signed, _, ranges, default = member
    return ("integer", name, 8 * word_size(word), signed, ranges, default)


def count_of(member):
    """Return the count of an array or a list."""
    if member[0] == "list":
        return member[2]
    return member[4]


def allowed_numbers(count):
    """Return the tuple of the allowed numbers of elements in ascending order."""
    if count[0] == "exactly":
        return (count[1],)
    if count[0] == "counted":
        _, _, least, greatest = count
        return tuple(range(least, greatest + 1))
    return tuple(range(count[1] + 1))


def items_by_case(cases):
    """Return a dict of the items of each case by the name of the case."""
    return {name: items for _, name, items in cases}


def numbers_by_case(cases):
    """Return a dict of the number of each case by the name of the case."""
    return {name: number for number, name, _ in cases}


def word_fields(word, parts):
    """Return a list of triples (name, low, width) for the parts of a word that have a name.

    The field consists of the bits low to low + width - 1 of the word.
    """
    low = 8 * word_size(word)
    found = []
    for name, width, _, _, _ in parts:
        low -= width
        if name is not None:
            found.append((name, low, width))
    return found


def sizes(layout):
    """Return the numbers of bytes of a shortest and of a longest message of a layout."""
    least = 0
    greatest = 0
    for item in layout:
        shortest, longest = item_sizes(item)
        least += shortest
        greatest += longest
    return (least, greatest)


def item_sizes(item):
    """Return the least and the greatest number of bytes of one item."""
    kind = item[0]
    if kind == "array":
        return counted_sizes(count_of(item), fixed_sizes(word_size(item[2])))
    if kind == "list":
        return counted_sizes(count_of(item), sizes(item[3]))
    if kind == "choice":
        _, _, word, cases = item
        return choice_sizes(word, cases)
    if kind == "record":
        _, _, items = item
        return sizes(items)
    return fixed_sizes(plain_size(item))


def plain_size(item):
    """Return the number of bytes of an item that has the same number in all messages."""
    kind = item[0]
    if kind == "word":
        return word_size(item[1])
    if kind == "literal":
        return len(item[1])
    if kind == "reserved":
        return item[1]
    # Only a check is left: it is one byte, whatever its method is.
    return 1


def fixed_sizes(size):
    """Return the pair of sizes of what always has this number of bytes."""
    return (size, size)


def count_bytes(count):
    """Return the number of bytes before all elements of an array or a list, and that before each element.

    With marks there is one more mark, behind the last element.
    """
    if count[0] == "counted":
        return (word_size(count[1]), 0)
    if count[0] == "marked":
        return (0, 1)
    return (0, 0)


def counted_sizes(count, element_sizes):
    """Return the sizes of an array or a list from its count and the sizes of one element."""
    shortest, longest = element_sizes
    head, mark = count_bytes(count)
    numbers = allowed_numbers(count)
    return (head + numbers[0] * (mark + shortest) + mark, head + numbers[-1] * (mark + longest) + mark)


def choice_sizes(word, cases):
    """Return the sizes of a choice, the number of the case included."""
    inner = [sizes(items) for _, _, items in cases]
    shortest = min([least for least, _ in inner])
    longest = max([greatest for _, greatest in inner])
    stored = word_size(word)
    return (stored + shortest, stored + longest)
