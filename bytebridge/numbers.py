"""Codes of integers, and the words in which messages store codes."""

WORD_SIZES = {"u8": 1, "u16be": 2, "u16le": 2, "u32be": 4, "u32le": 4}


def word_size(word):
    """Return the number of bytes of a word."""
    return WORD_SIZES[word]


def code_of(number, width):
    """Return the code of an integer in a field of width bits."""
    if number < 0:
        return number + (1 << width)
    return number


def number_of(code, width, signed):
    """Return the integer that has a code in a field of width bits."""
    if signed and code >= 1 << (width - 1):
        return code - (1 << width)
    return code


def store(word, code):
    """Return the list of the bytes in which a word stores a code."""
    rising = [bits_at(code, 8 * index, 8) for index in range(word_size(word))]
    return in_word_order(word, rising)


def fetch(word, data):
    """Return the code that is stored in the bytes of a word."""
    rising = in_word_order(word, data)
    return sum([byte << (8 * index) for index, byte in enumerate(rising)])


def in_word_order(word, data):
    """Return a new list of bytes, reversed if the word stores its most significant byte first."""
    # Reversing is its own inverse, so this serves storing and fetching alike.
    if word.endswith("be"):
        return data[::-1]
    return data[:]


def bits_at(code, low, width):
    """Return the code that the bits low to low + width - 1 of a code form."""
    return (code >> low) & ((1 << width) - 1)
