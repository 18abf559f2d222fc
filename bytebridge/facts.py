"""The facts that are certain in a pattern.

The facts of a member are made with the rest of the path behind the member's
path, so that equal elements of a list have equal facts.
"""

from bytebridge.integers import only_integer
from bytebridge.layouts import described_members, element_of, items_by_case
from bytebridge.patterns import once_each


def certain_facts(layout, pattern):
    """Return the list of the facts that are certain in a pattern, in order."""
    found = []
    for member, entry in zip(described_members(layout), pattern):
        found.extend(behind(member[1], entry_facts(member, entry)))
    return found


def behind(start, facts):
    """Return the list of the facts with start before each path."""
    return [(start + path, value) for path, value in facts]


def entry_facts(member, entry):
    """Return the list of the certain facts of a member, with the rests of their paths."""
    kind = member[0]
    if kind == "integer":
        return integer_facts(member, entry)
    if kind == "choice":
        return choice_facts(member, entry)
    if kind == "record":
        return behind(".", certain_facts(member[2], entry))
    return counts_facts(element_of(member), entry)


def integer_facts(member, entry):
    """Return the fact of an integer, if only one is possible, in a list."""
    number = only_integer(entry, member[2], member[3])
    if number is None:
        return []
    return [("", number)]


def counts_facts(element, entry):
    """Return the list of the certain facts of an array or a list."""
    _, numbers, entries = entry
    found = []
    if len(numbers) == 1:
        found.append((".length", numbers[0]))
    # Only the elements below the least possible number are in every record.
    sure = entries[:numbers[0]]
    for index, facts in enumerate(once_each(sure, lambda part: entry_facts(element, part))):
        found.extend(behind(f"[{index}]", facts))
    return found


def choice_facts(member, entry):
    """Return the list of the certain facts of a choice."""
    _, cases = entry
    items = items_by_case(member[3])
    first_name, first_pattern = cases[0]
    shared = certain_facts(items[first_name], first_pattern)
    if len(cases) == 1:
        return [(".case", first_name)] + behind(".value.", shared)
    for name, pattern in cases[1:]:
        if not shared:
            return []
        there = {fact: True for fact in certain_facts(items[name], pattern)}
        shared = [fact for fact in shared if fact in there]
    return behind(".value.", shared)
