"""Patterns: sets of records in which the values vary independently of each other.

A pattern has one entry for each member. The functions about entries get the
description of the member that bytebridge.layouts makes. The entry of a record
is a pattern, so an element of a list is treated like a record.
"""

from bytebridge.integers import allowed_set, contains, only_integer, set_of, size_of
from bytebridge.layouts import allowed_numbers, count_of, described_members, element_of, items_by_case


def whole(layout):
    """Return the pattern of all records of a layout with allowed values."""
    return tuple([whole_entry(member) for member in described_members(layout)])


def whole_entry(member):
    """Return the entry of all allowed values of a member."""
    kind = member[0]
    if kind == "integer":
        return allowed_set(member)
    if kind == "choice":
        return ("cases", tuple([(name, whole(items)) for _, name, items in member[3]]))
    if kind == "record":
        return whole(member[2])
    numbers = allowed_numbers(count_of(member))
    return ("counts", numbers, (whole_entry(element_of(member)),) * numbers[-1])


def single(layout, record):
    """Return the pattern of the set of one record with allowed values."""
    return tuple([single_entry(member, value) for member, value in zip(described_members(layout), record)])


def single_entry(member, value):
    """Return the entry of one allowed value of a member alone."""
    kind = member[0]
    if kind == "integer":
        return set_of([value], member[2])
    if kind == "choice":
        name, record = value
        return ("cases", ((name, single(items_by_case(member[3])[name], record)),))
    if kind == "record":
        return single(member[2], value)
    element = element_of(member)
    return ("counts", (len(value),), tuple([single_entry(element, part) for part in value]))


def belongs(layout, pattern, record):
    """Tell whether a record with allowed values belongs to a pattern."""
    for member, entry, value in zip(described_members(layout), pattern, record):
        if not value_belongs(member, entry, value):
            return False
    return True


def value_belongs(member, entry, value):
    """Tell whether an allowed value of a member belongs to its entry."""
    kind = member[0]
    if kind == "integer":
        return contains(entry, member[2], value)
    if kind == "choice":
        name, record = value
        left = dict(entry[1])
        return name in left and belongs(items_by_case(member[3])[name], left[name], record)
    if kind == "record":
        return belongs(member[2], entry, value)
    _, numbers, entries = entry
    element = element_of(member)
    return len(value) in numbers and all([value_belongs(element, part, inner) for part, inner in zip(entries, value)])


def how_many(layout, pattern):
    """Return the number of records that belong to a pattern."""
    product = 1
    for member, entry in zip(described_members(layout), pattern):
        product = product * how_many_values(member, entry)
    return product


def how_many_values(member, entry):
    """Return the number of values of a member that belong to its entry."""
    kind = member[0]
    if kind == "integer":
        return size_of(entry, member[2])
    if kind == "choice":
        items = items_by_case(member[3])
        return sum([how_many(items[name], pattern) for name, pattern in entry[1]])
    if kind == "record":
        return how_many(member[2], entry)
    return how_many_sequences(element_of(member), entry)


def how_many_sequences(element, entry):
    """Return the number of values of an array or a list that belong to its entry."""
    _, numbers, entries = entry
    product = 1
    products = [product]
    for choices in once_each(entries, lambda part: how_many_values(element, part)):
        product = product * choices
        products.append(product)
    return sum([products[number] for number in numbers])


def only(layout, pattern):
    """Return the record that belongs to a pattern if there is only one, otherwise None."""
    return tuple_or_none([only_value(member, entry) for member, entry in zip(described_members(layout), pattern)])


def only_value(member, entry):
    """Return the value of a member that belongs to its entry if there is only one, otherwise None."""
    kind = member[0]
    if kind == "integer":
        return only_integer(entry, member[2], member[3])
    if kind == "choice":
        return only_case(member, entry)
    if kind == "record":
        return only(member[2], entry)
    _, numbers, entries = entry
    if len(numbers) > 1:
        return None
    element = element_of(member)
    return tuple_or_none(once_each(entries, lambda part: only_value(element, part)))


def only_case(member, entry):
    """Return the value of a choice that belongs to its entry if there is only one, otherwise None."""
    _, cases = entry
    if len(cases) > 1:
        return None
    name, pattern = cases[0]
    record = only(items_by_case(member[3])[name], pattern)
    if record is None:
        return None
    return (name, record)


def tuple_or_none(values):
    """Return a tuple of the values, or None if one of them is None."""
    if any([value is None for value in values]):
        return None
    return tuple(values)


def with_member(layout, pattern, name, value):
    """Return the pattern of the records of a pattern in which a member has a value; there is at least one."""
    found = []
    for member, entry in zip(described_members(layout), pattern):
        if member[1] == name:
            found.append(single_entry(member, value))
        else:
            found.append(entry)
    return tuple(found)


def once_each(entries, told):
    """Return the list of told(entry) for each entry, calling it once for equal entries side by side.

    The elements of which nothing is known have equal entries, and there can be many of them.
    """
    found = []
    before = None
    for entry in entries:
        if before is None or entry != before:
            found.append(told(entry))
        else:
            found.append(found[-1])
        before = entry
    return found
