"""The steps of plans: what they name, and what they do with the sets of possible codes.

A set is an integer set of an unsigned field of 32 bits.
"""

from bytebridge.integers import all_bits, common_bits, contains, kept, only_integer, size_of, some_set_of
from bytebridge.numbers import bits_at

SLOT_WIDTH = 32


def slots_of(step):
    """Return the list of the slots that a step names; a slot that several pieces name is there several times."""
    kind = step[0]
    if kind == "bits":
        return [slot for slot, _, _, _ in step[1]]
    if kind in ("mark", "table", "when"):
        return [step[1]]
    return []


def goal_of(step):
    """Return the position at which a when or jump step goes on, or None for another step."""
    if step[0] == "when":
        return step[3]
    if step[0] == "jump":
        return step[1]
    return None


def only_code(entry):
    """Return the code of a set if there is only one, otherwise None."""
    return only_integer(entry, SLOT_WIDTH, False)


def is_possible(entry, code):
    """Tell whether a code is in a set."""
    return contains(entry, SLOT_WIDTH, code)


def least_code(entry):
    """Return the least code of a set."""
    if entry[0] == "among":
        return entry[1][0]
    # The unknown bits are 0 in this code.
    return entry[2]


def codes_of(entry):
    """Return the list of the codes of a set in ascending order; there may not be too many."""
    if entry[0] == "among":
        return list(entry[1])
    _, known, code = entry
    found = [code]
    for bit in range(SLOT_WIDTH):
        if bits_at(known, bit, 1) == 0:
            found = found + [other | (1 << bit) for other in found]
    return found


def set_with_bits(entry, piece, byte):
    """Return the set of the codes that have the bits of a byte in the bits of a piece, or None if there are none."""
    _, low, width, shift = piece
    return kept(entry, SLOT_WIDTH, all_bits(width) << low, bits_at(byte, shift, width) << low)


def set_after_mark(entry, number, byte):
    """Return the set of the codes that agree with a mark, or None if there are none."""
    if byte == 1:
        return some_set_of([code for code in codes_of(entry) if code > number], SLOT_WIDTH)
    if byte == 0 and is_possible(entry, number):
        return some_set_of([number], SLOT_WIDTH)
    return None


def set_from_table(entry, pairs, byte):
    """Return the set of the codes that are paired with a byte, or None if there are none."""
    codes = [code for code, paired in pairs if paired == byte and is_possible(entry, code)]
    return some_set_of(codes, SLOT_WIDTH)


def known_byte(step, entries):
    """Return the byte that a bits, mark or table step sends, or None if it is not determined.

    The entries are the sets of the slots that the step names.
    """
    if step[0] == "bits":
        return known_bits(step[1], entries)
    if step[0] == "mark":
        return known_mark(step[2], entries[0])
    return known_pair(step[2], entries[0])


def known_bits(pieces, entries):
    """Return the byte in which all possible codes agree, or None."""
    byte = 0
    for (_, low, width, shift), entry in zip(pieces, entries):
        known, code = common_bits(entry, SLOT_WIDTH)
        if bits_at(known, low, width) != all_bits(width):
            return None
        byte = byte | (bits_at(code, low, width) << shift)
    return byte


def known_mark(number, entry):
    """Return the mark that all possible codes have, or None."""
    if least_code(entry) > number:
        return 1
    if only_code(entry) == number:
        return 0
    return None


def known_pair(pairs, entry):
    """Return the byte with which all possible codes are paired, or None."""
    # There can be far too many codes to go through them.
    if size_of(entry, SLOT_WIDTH) > len(pairs):
        return None
    table = dict(pairs)
    found = [table.get(code) for code in codes_of(entry)]
    if found.count(found[0]) < len(found):
        return None
    return found[0]
