"""The slots and steps of plans for bridges.

A node tells the slots of a value. It is the slot of an integer; a triple (slot,
numbers, nodes) of an array or a list, with the possible numbers of elements and
a node for each element that there can be; a pair (slot, cases) of a choice, with
a triple (code, name, nodes) for each possible case; and the tuple of the nodes
of its members for a record. An element of a list has a node like a record. The
functions new_.. append the sets of new slots to a list, the functions add_..
append steps to a list.
"""

from bytebridge.integers import all_bits, set_of
from bytebridge.layouts import by_item, count_of, described_members, element_of, items_by_case, numbers_by_case
from bytebridge.layouts import word_fields
from bytebridge.matching import default_value
from bytebridge.numbers import code_of, in_word_order, store, word_size
from bytebridge.patterns import single_entry
from bytebridge.steps import SLOT_WIDTH


def new_slot(entry, slots):
    """Return a new slot with a set."""
    slots.append(entry)
    return len(slots) - 1


def new_nodes(layout, pattern, slots):
    """Return the tuple of the nodes of a layout's members for the records of a pattern."""
    return tuple([new_node(member, entry, slots) for member, entry in zip(described_members(layout), pattern)])


def new_node(member, entry, slots):
    """Return the node of a member for the values of an entry."""
    kind = member[0]
    if kind == "integer":
        return new_slot(codes_in_slot(entry, member[2]), slots)
    if kind == "record":
        return new_nodes(member[2], entry, slots)
    if kind == "choice":
        _, cases = entry
        items = items_by_case(member[3])
        slot = new_slot(set_of(list(range(len(cases))), SLOT_WIDTH), slots)
        inner = [(code, name, new_nodes(items[name], pattern, slots)) for code, (name, pattern) in enumerate(cases)]
        return (slot, tuple(inner))
    _, numbers, entries = entry
    slot = new_slot(set_of(list(numbers), SLOT_WIDTH), slots)
    element = element_of(member)
    return (slot, numbers, tuple([new_node(element, part, slots) for part in entries]))


def codes_in_slot(entry, width):
    """Return the set of the codes of an integer set of a field."""
    if entry[0] == "among":
        return set_of(sorted([code_of(number, width) for number in entry[1]]), SLOT_WIDTH)
    _, known, code = entry
    return ("bits", known | (all_bits(SLOT_WIDTH) ^ all_bits(width)), code)


def new_target_nodes(source, nodes, target, slots):
    """Return the tuple of the nodes of the target's members: those of the matched members, and new ones."""
    matched = {}
    for member, node in zip(described_members(source), nodes):
        matched[member[1]] = (member, node)
    found = []
    for member in described_members(target):
        if member[1] in matched:
            other, node = matched[member[1]]
            found.append(new_target_node(other, node, member, slots))
        else:
            found.append(new_node(member, single_entry(member, default_value(member)), slots))
    return tuple(found)


def new_target_node(source, node, target, slots):
    """Return the node of a matched member of the target, given that of the source."""
    kind = target[0]
    if kind == "integer":
        return node
    if kind == "record":
        return new_target_nodes(source[2], node, target[2], slots)
    if kind == "choice":
        slot, cases = node
        items = items_by_case(source[3])
        others = items_by_case(target[3])
        inner = [(code, name, new_target_nodes(items[name], nodes, others[name], slots)) for code, name, nodes in cases]
        return (slot, tuple(inner))
    slot, numbers, nodes = node
    element = element_of(source)
    other = element_of(target)
    return (slot, numbers, tuple([new_target_node(element, inner, other, slots) for inner in nodes]))


def add_items(layout, nodes, steps):
    """Add the steps of the items of a layout."""
    for item, inner in by_item(layout, nodes):
        add_item(item, inner, steps)


def add_item(item, nodes, steps):
    """Add the steps of an item, given the nodes of its members."""
    kind = item[0]
    if kind == "word":
        _, word, parts = item
        fields = [(slot, low, width) for slot, (_, low, width) in zip(nodes, word_fields(word, parts))]
        add_word(word, fields, steps)
    elif kind == "choice":
        add_choice(item, nodes[0], steps)
    elif kind == "record":
        add_items(item[2], nodes[0], steps)
    elif kind == "literal":
        steps.extend([("byte", byte) for byte in item[1]])
    elif kind == "reserved":
        steps.extend([("free",)] * item[1])
    elif kind == "check":
        steps.append(item)
    else:
        add_sequence(item, nodes[0], steps)


def add_word(word, fields, steps):
    """Add the steps of a word; each of its fields is a triple of a slot, its least bit in the word and its width."""
    # The index 0 stands for the byte with the eight least bits, wherever the word stores it.
    for index in in_word_order(word, list(range(word_size(word)))):
        pieces = []
        for slot, low, width in fields:
            first = max(low, 8 * index)
            behind = min(low + width, 8 * index + 8)
            if first < behind:
                pieces.append((slot, first - low, behind - first, first - 8 * index))
        if pieces:
            steps.append(("bits", tuple(pieces)))
        else:
            steps.append(("free",))


def add_code(word, slot, steps):
    """Add the steps of a word that stores the code in one slot."""
    add_word(word, [(slot, 0, 8 * word_size(word))], steps)


def add_sequence(item, node, steps):
    """Add the steps of an array or a list."""
    slot, numbers, nodes = node
    count = count_of(item)
    if count[0] == "counted":
        add_code(count[1], slot, steps)
    exits = []
    for index, inner in enumerate(nodes):
        if count[0] == "marked":
            steps.append(("mark", slot, index))
        if index in numbers:
            exits.append((len(steps), ("when", slot, index)))
            steps.append(())
        add_element(item, inner, steps)
    if count[0] == "marked":
        steps.append(("mark", slot, len(nodes)))
    fill_exits(exits, steps)


def add_element(item, node, steps):
    """Add the steps of an element of an array or a list."""
    if item[0] == "list":
        add_items(item[3], node, steps)
    else:
        add_code(item[2], node, steps)


def add_choice(item, node, steps):
    """Add the steps of a choice."""
    _, _, word, listed = item
    slot, cases = node
    numbers = numbers_by_case(listed)
    items = items_by_case(listed)
    stored = [(code, store(word, numbers[name])) for code, name, _ in cases]
    for place in range(word_size(word)):
        steps.append(("table", slot, tuple([(code, data[place]) for code, data in stored])))
    # The last case needs no step that chooses it.
    places = {}
    for code, _, _ in cases[:-1]:
        places[code] = len(steps)
        steps.append(())
    exits = []
    for code, name, nodes in cases[::-1]:
        if code in places:
            exits.append((len(steps), ("jump",)))
            steps.append(())
            steps[places[code]] = ("when", slot, code, len(steps))
        add_items(items[name], nodes, steps)
    fill_exits(exits, steps)


def fill_exits(exits, steps):
    """Put steps that go on at the end of all steps so far at their positions."""
    for place, step in exits:
        steps[place] = step + (len(steps),)
