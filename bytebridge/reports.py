"""Reports on a bridge: the members that are narrowed, lost and filled.

The starts and paths in this module are those of member paths, as in bytebridge.matching.
"""

from bytebridge.integers import allows_all_of
from bytebridge.layouts import allowed_numbers, count_of, described_members, element_of, items_by_case
from bytebridge.matching import by_name
from bytebridge.patterns import how_many_values


def narrowed(bridge):
    """Return the list of the member paths at which the source allows something that the target does not."""
    return narrowed_in(bridge.source, bridge.target, "")


def narrowed_in(source, target, start):
    """Return the list of the narrowed paths of two matched scopes."""
    targets = by_name(target)
    found = []
    for member in described_members(source):
        if member[1] in targets:
            found.extend(narrowed_at(member, targets[member[1]], start + member[1]))
    return found


def narrowed_at(source, target, path):
    """Return the list of the narrowed paths of two matched members."""
    kind = source[0]
    if kind == "integer":
        return [] if allows_all_of(target, source) else [path]
    if kind == "choice":
        return narrowed_cases(source, target, path)
    if kind == "record":
        return narrowed_in(source[2], target[2], f"{path}.")
    shared = allowed_numbers(count_of(target))
    fits = all([number in shared for number in allowed_numbers(count_of(source))])
    inside = narrowed_at(element_of(source), element_of(target), f"{path}[]")
    return inside if fits else [path] + inside


def narrowed_cases(source, target, path):
    """Return the list of the narrowed paths of two matched choices."""
    targets = items_by_case(target[3])
    found = []
    for _, name, items in source[3]:
        if name in targets:
            found.extend(narrowed_in(items, targets[name], f"{path}.{name}."))
        else:
            found.append(f"{path}.{name}")
    return found


def lost(bridge):
    """Return the list of the member paths of the source whose values get lost in conversions."""
    return lost_in(bridge.source, bridge.target, bridge.convertible, "")


def lost_in(source, target, pattern, start):
    """Return the list of the lost paths of two matched scopes, given the pattern of the convertible records."""
    targets = by_name(target)
    found = []
    for member, entry in zip(described_members(source), pattern):
        path = start + member[1]
        if member[1] in targets:
            found.extend(lost_at(member, targets[member[1]], entry, path))
        elif how_many_values(member, entry) > 1:
            found.append(path)
    return found


def lost_at(source, target, entry, path):
    """Return the list of the lost paths inside of two matched members."""
    kind = source[0]
    if kind == "choice":
        sources = items_by_case(source[3])
        targets = items_by_case(target[3])
        found = []
        for name, pattern in entry[1]:
            found.extend(lost_in(sources[name], targets[name], pattern, f"{path}.{name}."))
        return found
    if kind == "record":
        return lost_in(source[2], target[2], entry, f"{path}.")
    # All elements have the same entry, so the first one stands for all of them.
    if kind == "list" and entry[2]:
        return lost_at(element_of(source), element_of(target), entry[2][0], f"{path}[]")
    return []


def filled(bridge):
    """Return the list of the member paths of the target that have their default values in all conversions."""
    return filled_in(bridge.source, bridge.target, "")


def filled_in(source, target, start):
    """Return the list of the filled paths of two matched scopes."""
    sources = by_name(source)
    found = []
    for member in described_members(target):
        path = start + member[1]
        if member[1] in sources:
            found.extend(filled_at(sources[member[1]], member, path))
        else:
            found.append(path)
    return found


def filled_at(source, target, path):
    """Return the list of the filled paths inside of two matched members."""
    kind = target[0]
    if kind == "choice":
        sources = items_by_case(source[3])
        found = []
        for _, name, items in target[3]:
            if name in sources:
                found.extend(filled_in(sources[name], items, f"{path}.{name}."))
        return found
    if kind == "record":
        return filled_in(source[2], target[2], f"{path}.")
    if kind == "list":
        return filled_at(element_of(source), element_of(target), f"{path}[]")
    return []
