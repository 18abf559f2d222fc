"""The allowed integers of fields, and integer sets: what is known about the integer of a field.

A field is the description of an integer member that bytebridge.layouts makes.
An integer set is ("bits", known, code) or ("among", numbers); each set of
integers has exactly one of these forms.
"""

from bytebridge.numbers import code_of, number_of


def all_bits(width):
    """Return the code of width bits that are all 1."""
    return (1 << width) - 1


def integers_of(width, signed):
    """Return the least and the greatest integer of a field."""
    if signed:
        half = 1 << (width - 1)
        return (-half, half - 1)
    return (0, all_bits(width))


def allowed_ranges(field):
    """Return the tuple of the ranges of the allowed integers of a field."""
    _, _, width, signed, ranges, _ = field
    if ranges is None:
        return (integers_of(width, signed),)
    return ranges


def is_allowed(field, number):
    """Tell whether any integer is an allowed integer of a field."""
    return any([low <= number <= high for low, high in allowed_ranges(field)])


def allows_all_of(field, other):
    """Tell whether a field allows all integers that the other field allows."""
    # A gap lies between two ranges of a field, so a range is covered by a single one or not at all.
    ranges = allowed_ranges(field)
    for low, high in allowed_ranges(other):
        if not any([least <= low and high <= greatest for least, greatest in ranges]):
            return False
    return True


def listed_integers(field):
    """Return the list of the allowed integers of a field that has ranges, in ascending order."""
    found = []
    for low, high in allowed_ranges(field):
        found.extend(list(range(low, high + 1)))
    return found


def allowed_set(field):
    """Return the integer set of all allowed integers of a field."""
    _, _, width, _, ranges, _ = field
    if ranges is None:
        return ("bits", 0, 0)
    return set_of(listed_integers(field), width)


def shared_set(field, other):
    """Return the integer set of the field's allowed integers that the other field allows, or None.

    Both fields are unsigned, or both are signed and have the same width.
    """
    _, _, width, _, ranges, _ = field
    _, _, other_width, _, other_ranges, _ = other
    if ranges is not None:
        return some_set_of([number for number in listed_integers(field) if is_allowed(other, number)], width)
    if other_ranges is not None:
        return some_set_of([number for number in listed_integers(other) if is_allowed(field, number)], width)
    # What fits into a narrower field are the integers whose bits above its width are 0.
    return ("bits", all_bits(width) ^ all_bits(min(width, other_width)), 0)


def set_of(numbers, width):
    """Return the integer set of a list of integers in ascending order, of which there is at least one."""
    known, code = agreement([code_of(number, width) for number in numbers], width)
    if len(numbers) == codes_with(known, width):
        return ("bits", known, code)
    return ("among", tuple(numbers))


def some_set_of(numbers, width):
    """Return the integer set of a list of integers in ascending order, or None if there are none."""
    if numbers:
        return set_of(numbers, width)
    return None


def agreement(codes, width):
    """Return the bits in which some codes agree, and the code that has the common bits there and 0 elsewhere."""
    differing = 0
    for code in codes:
        differing = differing | (code ^ codes[0])
    known = all_bits(width) ^ differing
    return (known, codes[0] & known)


def codes_with(known, width):
    """Return the number of codes that agree with a code in the known bits."""
    free = all_bits(width) ^ known
    digits = f"{free:b}"
    return 1 << digits.count("1")


def common_bits(entry, width):
    """Return the bits in which the codes of an integer set agree, and the code of the common bits."""
    if entry[0] == "bits":
        _, known, code = entry
        return (known, code)
    return agreement([code_of(number, width) for number in entry[1]], width)


def kept(entry, width, known, code):
    """Return the set of those integers of a set whose codes have the known bits of code, or None."""
    if entry[0] == "bits":
        _, entry_known, entry_code = entry
        if (entry_code ^ code) & entry_known & known:
            return None
        return ("bits", entry_known | known, entry_code | (code & known))
    numbers = [number for number in entry[1] if ((code_of(number, width) ^ code) & known) == 0]
    return some_set_of(numbers, width)


def contains(entry, width, number):
    """Tell whether an integer of the field is in an integer set."""
    if entry[0] == "bits":
        _, known, code = entry
        return (code_of(number, width) & known) == code
    return number in entry[1]


def size_of(entry, width):
    """Return the number of integers in an integer set."""
    if entry[0] == "bits":
        return codes_with(entry[1], width)
    return len(entry[1])


def only_integer(entry, width, signed):
    """Return the integer of an integer set if there is only one, otherwise None."""
    # A single integer agrees with itself in all bits, so its set never has the other form.
    if entry[0] == "bits" and entry[1] == all_bits(width):
        return number_of(entry[2], width, signed)
    return None


def in_width(entry, width, other_width):
    """Return the integer set of the same integers, of which all fit, for a field of another width.

    The widths differ for unsigned integers only.
    """
    if entry[0] == "among" or width == other_width:
        return entry
    _, known, code = entry
    if width > other_width:
        return ("bits", known & all_bits(other_width), code)
    return ("bits", known | (all_bits(other_width) ^ all_bits(width)), code)
