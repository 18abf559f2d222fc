"""Bridges: two layouts that are linked by the names of their members.

A link tells where the entry of a member of the target comes from. It is a pair:
the place of the matched member in the patterns of the source, and the rule by
which its entry is transferred. Without a matched member the place is None, and
the entry of the default value stands in place of the rule.
"""

from bytebridge.errors import NotConvertible, NothingConvertible
from bytebridge.integers import in_width
from bytebridge.layouts import described_members, element_of, items_by_case
from bytebridge.matching import convertible_pattern, default_value, examine
from bytebridge.patterns import belongs, once_each, only, single, single_entry


class Bridge:
    """Links a source layout and a target layout. It never changes."""

    def __init__(self, source, target):
        examine(source, target, "")
        convertible = convertible_pattern(source, target)
        if convertible is None:
            raise NothingConvertible()
        self.source = source
        self.target = target
        self.convertible = convertible
        self._links = links_of(source, target)

    def is_convertible(self, record):
        """Tell whether a record of the source with allowed values is convertible."""
        return belongs(self.source, self.convertible, record)

    def converted(self, record):
        """Return the conversion of a record of the source with allowed values."""
        if not self.is_convertible(record):
            raise NotConvertible()
        return only(self.target, self.transferred(single(self.source, record)))

    def transferred(self, pattern):
        """Return the pattern of the conversions of the records of a pattern of the source."""
        return linked_pattern(self._links, pattern)


def links_of(source, target):
    """Return a tuple of links, one for each member of the target, for two matched scopes."""
    places = {}
    for place, member in enumerate(described_members(source)):
        places[member[1]] = (place, member)
    found = []
    for member in described_members(target):
        if member[1] in places:
            place, matched = places[member[1]]
            found.append((place, rule_of(matched, member)))
        else:
            found.append((None, single_entry(member, default_value(member))))
    return tuple(found)


def rule_of(source, target):
    """Return the rule by which the entry of a matched member is transferred."""
    kind = target[0]
    if kind == "integer":
        return ("integer", source[2], target[2])
    if kind == "choice":
        sources = items_by_case(source[3])
        shared = [(name, items) for _, name, items in target[3] if name in sources]
        return ("cases", tuple([(name, links_of(sources[name], items)) for name, items in shared]))
    if kind == "record":
        return ("record", links_of(source[2], target[2]))
    return ("counts", rule_of(element_of(source), element_of(target)))


def linked_pattern(links, pattern):
    """Return the pattern of the target that links make from a pattern of the source."""
    found = []
    for place, rule in links:
        if place is None:
            found.append(rule)
        else:
            found.append(linked_entry(rule, pattern[place]))
    return tuple(found)


def linked_entry(rule, entry):
    """Return the entry of the target that a rule makes from an entry of the source."""
    kind = rule[0]
    if kind == "integer":
        return in_width(entry, rule[1], rule[2])
    if kind == "record":
        return linked_pattern(rule[1], entry)
    if kind == "cases":
        left = dict(entry[1])
        cases = [(name, linked_pattern(links, left[name])) for name, links in rule[1] if name in left]
        return ("cases", tuple(cases))
    _, numbers, entries = entry
    return ("counts", numbers, tuple(once_each(entries, lambda part: linked_entry(rule[1], part))))
