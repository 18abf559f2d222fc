"""Layouts: the members that they define and the sizes of their messages.

Sizes are pairs here: the least and the greatest number of bytes. The values of
a record vary independently, so the pairs of items can be added.
"""

from bytebridge.numbers import word_size

NAMED_ITEMS = ("array", "list", "choice", "record")


def members(layout):
    """Return a tuple of pairs (name, kind), one for each member of a layout in order."""
    found = []
    for item in layout:
        found.extend(item_members(item))
    return tuple(found)


def item_members(item):
    """Return the list of the pairs (name, kind) of the members that one item defines."""
    kind = item[0]
    if kind == "word":
        return [(part[0], "integer") for part in item[2] if part[0] is not None]
    if kind in NAMED_ITEMS:
        return [(item[1], kind)]
    return []


def sizes(layout):
    """Return the numbers of bytes of a shortest and of a longest message of a layout."""
    least = 0
    greatest = 0
    for item in layout:
        shortest, longest = item_sizes(item)
        least += shortest
        greatest += longest
    return (least, greatest)


def item_sizes(item):
    """Return the least and the greatest number of bytes of one item."""
    kind = item[0]
    if kind == "array":
        _, _, word, _, count, _, _ = item
        return counted_sizes(count, fixed_sizes(word_size(word)))
    if kind == "list":
        _, _, count, items = item
        return counted_sizes(count, sizes(items))
    if kind == "choice":
        _, _, word, cases = item
        return choice_sizes(word, cases)
    if kind == "record":
        _, _, items = item
        return sizes(items)
    return fixed_sizes(plain_size(item))


def plain_size(item):
    """Return the number of bytes of an item that has the same number in all messages."""
    kind = item[0]
    if kind == "word":
        return word_size(item[1])
    if kind == "literal":
        return len(item[1])
    if kind == "reserved":
        return item[1]
    # Only a check is left: it is one byte, whatever its method is.
    return 1


def fixed_sizes(size):
    """Return the pair of sizes of what always has this number of bytes."""
    return (size, size)


def counted_sizes(count, element_sizes):
    """Return the sizes of an array or a list from its count and the sizes of one element."""
    shortest, longest = element_sizes
    if count[0] == "exactly":
        _, number = count
        return (number * shortest, number * longest)
    if count[0] == "counted":
        _, word, least, greatest = count
        stored = word_size(word)
        return (stored + least * shortest, stored + greatest * longest)
    # Each element has a mark before it, and one more mark ends even the longest list.
    _, number = count
    return (1, number * (1 + longest) + 1)


def choice_sizes(word, cases):
    """Return the sizes of a choice, the number of the case included."""
    inner = [sizes(items) for _, _, items in cases]
    shortest = min([least for least, _ in inner])
    longest = max([greatest for _, greatest in inner])
    stored = word_size(word)
    return (stored + shortest, stored + longest)
