"""Matched members of two layouts: what goes together, the default values, and what can be converted.

Members are given by the descriptions that bytebridge.layouts makes. A path in
this module is a member path. The start of a path is all that stands before the
name of the member: the empty string for the members of a layout itself.
"""

from bytebridge.errors import KindsDiffer, MissingDefault
from bytebridge.integers import shared_set
from bytebridge.layouts import allowed_numbers, count_of, described_members, element_of, items_by_case
from bytebridge.patterns import tuple_or_none, whole_entry


def by_name(layout):
    """Return a dict of the descriptions of the members of a layout by their names."""
    return {member[1]: member for member in described_members(layout)}


def examine(source, target, start):
    """Raise the first error of two layouts whose scopes are matched."""
    sources = by_name(source)
    for member in described_members(target):
        path = start + member[1]
        if member[1] in sources:
            examine_matched(sources[member[1]], member, path)
        elif default_value(member) is None:
            raise MissingDefault(path)


def examine_matched(source, target, path):
    """Raise the first error of two matched members."""
    kind = target[0]
    if source[0] != kind or (kind == "integer" and not go_together(source, target)):
        raise KindsDiffer(path)
    if kind == "choice":
        sources = items_by_case(source[3])
        for _, name, items in target[3]:
            if name in sources:
                examine(sources[name], items, f"{path}.{name}.")
    elif kind == "record":
        examine(source[2], target[2], f"{path}.")
    elif kind != "integer":
        examine_matched(element_of(source), element_of(target), f"{path}[]")


def go_together(source, target):
    """Tell whether two integers can be matched."""
    _, _, source_width, source_signed, _, _ = source
    _, _, target_width, target_signed, _, _ = target
    if source_signed and target_signed:
        return source_width == target_width
    return not source_signed and not target_signed


def default_value(member):
    """Return the default value of a member, or None if it has none."""
    kind = member[0]
    if kind == "integer":
        return member[5]
    if kind == "choice":
        return None
    if kind == "record":
        return tuple_or_none([default_value(inner) for inner in described_members(member[2])])
    # If there need not be any elements, it does not matter whether they have a default value.
    least = allowed_numbers(count_of(member))[0]
    return tuple_or_none([default_value(element_of(member))] * least)


def convertible_pattern(source, target):
    """Return the pattern of the records of the source that are convertible, or None if there are none."""
    targets = by_name(target)
    found = []
    for member in described_members(source):
        if member[1] in targets:
            found.append(convertible_entry(member, targets[member[1]]))
        else:
            found.append(whole_entry(member))
    return tuple_or_none(found)


def convertible_entry(source, target):
    """Return the entry of the convertible values of a matched member of the source, or None."""
    kind = source[0]
    if kind == "integer":
        return shared_set(source, target)
    if kind == "choice":
        return convertible_cases(source, target)
    if kind == "record":
        return convertible_pattern(source[2], target[2])
    part = convertible_entry(element_of(source), element_of(target))
    shared = allowed_numbers(count_of(target))
    numbers = [number for number in allowed_numbers(count_of(source)) if number in shared]
    if part is None:
        numbers = [number for number in numbers if number == 0]
    if not numbers:
        return None
    return ("counts", tuple(numbers), (part,) * numbers[-1])


def convertible_cases(source, target):
    """Return the entry of the convertible values of a matched choice of the source, or None."""
    targets = items_by_case(target[3])
    found = []
    for _, name, items in source[3]:
        if name in targets:
            pattern = convertible_pattern(items, targets[name])
            if pattern is not None:
                found.append((name, pattern))
    if not found:
        return None
    return ("cases", tuple(found))
