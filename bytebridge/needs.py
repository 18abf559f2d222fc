"""How many bytes of the source a byte of the target needs because of one value.

A need is a tuple that begins with the number of needed bytes or marks of the
item of the source, which is not 0, and the offset of the byte in its item of
the target. A word is compared bit by bit: a code of 1 bits tells which bits of
a field some of its bytes store.
"""

from bytebridge.integers import all_bits
from bytebridge.numbers import bits_at, code_of, fetch, word_size


def received_bits(word, low, width):
    """Return the bits of a field that the first 0, 1, 2 and so on bytes of a word store, a list of codes.

    The field consists of the bits low to low + width - 1 of the word.
    """
    size = word_size(word)
    found = []
    for many in range(size + 1):
        code = fetch(word, [255] * many + [0] * (size - many))
        found.append(bits_at(code, low, width))
    return found


def stored_bits(word, low, width):
    """Return the bits of a field that each byte of a word stores, a list of codes."""
    received = received_bits(word, low, width)
    return [behind ^ before for before, behind in zip(received, received[1:])]


def word_needs(source, target, pairs):
    """Return the list of the needs (needed, offset, code) of a value that two words store.

    The source and the target are triples (word, low, width) of a word and a field.
    Each pair has the codes of one possible value in the two fields. Of the needs
    of a byte only the greatest one counts; the code is that of a value that has it.
    """
    word, low, width = source
    other_word, other_low, other_width = target
    received = received_bits(word, low, width)
    found = []
    for place, bits in enumerate(stored_bits(other_word, other_low, other_width)):
        # The bytes after which some value is not told yet; the last one of these values is the latest.
        late = []
        for known in received:
            code = unsettled(pairs, known, bits)
            if code is None:
                break
            late.append(code)
        if late:
            found.append((len(late), place, late[-1]))
    return found


def unsettled(pairs, known, bits):
    """Return the source's code of a value of which the known bits do not tell these bits in the target, or None."""
    told = {}
    for code, other in pairs:
        if told.setdefault(code & known, other & bits) != other & bits:
            return code
    return None


def telling_codes(entry, width):
    """Return the list of codes of an integer set that have the same needs as all codes of the set."""
    if entry[0] == "among":
        return [code_of(number, width) for number in entry[1]]
    # The unknown bits vary independently, so each one is needed where it is stored, whatever the others are.
    _, known, code = entry
    unknown = all_bits(width) ^ known
    return [code] + [code | (1 << bit) for bit in range(width) if (unknown >> bit) & 1]


def number_needs(source, target, numbers):
    """Return the list of the needs of a number of elements, given its two counts and its possible values.

    A need is a tuple (needed, offset, before, before in the target, number): how
    many elements precede the last needed byte, how many precede the byte of the
    target, and a number of elements that has the need. The first two numbers do
    not count these elements and the marks before them.
    """
    found = {}
    for number in numbers:
        stages = known_numbers(source, numbers, number)
        for place, before, needed in needs_at(target, number, stages):
            if needed > 0 and source[0] == "marked":
                # Each of the needed marks but the last one has an element behind it.
                found[(1, place, needed - 1, before)] = number
            elif needed > 0:
                found[(needed, place, 0, before)] = number
    return [need + (number,) for need, number in found.items()]


def known_numbers(count, numbers, number):
    """Return the numbers that are possible after 0, 1, 2 and so on bytes or marks of this number, a list of lists."""
    if count[0] == "exactly":
        return [[number]]
    if count[0] == "marked":
        return [[other for other in numbers if other >= marks] for marks in range(number + 1)] + [[number]]
    word = count[1]
    known = received_bits(word, 0, 8 * word_size(word))
    return [[other for other in numbers if (other ^ number) & bits == 0] for bits in known]


def needs_at(count, number, stages):
    """Return the list of triples (offset, elements before, needed), one for each byte that depends on this number."""
    if count[0] == "exactly":
        return []
    if count[0] == "marked":
        return [(0, index, mark_need(index, stages)) for index in range(number + 1)]
    word = count[1]
    stored = stored_bits(word, 0, 8 * word_size(word))
    return [(place, 0, bits_need(bits, stages)) for place, bits in enumerate(stored)]


def mark_need(index, stages):
    """Return the first stage at which it is known whether there is an element with an index."""
    needed = 0
    while stages[needed][0] <= index and stages[needed] != [index]:
        needed += 1
    return needed


def bits_need(bits, stages):
    """Return the first stage at which all possible numbers agree in these bits."""
    needed = 0
    while any([(number ^ stages[needed][0]) & bits for number in stages[needed]]):
        needed += 1
    return needed
