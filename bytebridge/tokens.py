"""Texts, divided into tokens: words, numbers and symbols.

A token is a tuple (kind, value, place). The characters are compared with those
that are listed here, because methods like isdigit accept further ones.
"""

from bytebridge.errors import InvalidNumber, UnexpectedCharacter, WordTooLong

LETTERS = "ABCDEFGHIJKLMNOPQRSTUVWXYZabcdefghijklmnopqrstuvwxyz"
DIGITS = "0123456789"
HEXADECIMAL_DIGITS = "0123456789ABCDEFabcdef"
WORD_CHARACTERS = "_0123456789ABCDEFGHIJKLMNOPQRSTUVWXYZabcdefghijklmnopqrstuvwxyz"
BLANKS = " \t\n"
SYMBOLS = "{}[];:,"

LONGEST_WORD = 20
LONGEST_DECIMAL = 10
LONGEST_HEXADECIMAL = 8
GREATEST_NUMBER = 4294967295


def tokens_of(text):
    """Return the list of the tokens of a text in order."""
    found = []
    place = 0
    while place < len(text):
        if text[place] in BLANKS:
            place += 1
        else:
            kind, value, behind = token_at(text, place)
            found.append((kind, value, place))
            place = behind
    return found


def token_at(text, place):
    """Return the kind and the value of the token at a place, and the place behind it."""
    first = text[place]
    if first in LETTERS:
        return word_at(text, place)
    if first in DIGITS:
        return number_at(text, place, place)
    if first == "-":
        return number_at(text, place, place + 1)
    return symbol_at(text, place)


def run_end(text, place):
    """Return the place behind all letters, digits and underscores that follow from a place on."""
    while place < len(text) and text[place] in WORD_CHARACTERS:
        place += 1
    return place


def word_at(text, place):
    """Return the kind and the value of the word at a place, and the place behind it."""
    behind = run_end(text, place)
    if behind - place > LONGEST_WORD:
        raise WordTooLong(place)
    return ("word", text[place:behind], behind)


def number_at(text, place, first):
    """Return the kind and the value of the number at a place, whose digits begin at first, and the place behind it."""
    behind = run_end(text, first)
    value = number_from(text[first:behind])
    if value is None:
        raise InvalidNumber(place)
    if first > place:
        value = -value
    return ("number", value, behind)


def number_from(digits):
    """Return the decimal or hexadecimal number that these characters form, or None."""
    if digits.startswith("0x"):
        return hexadecimal_from(digits[2:])
    if digits == "" or len(digits) > LONGEST_DECIMAL or not consists_of(digits, DIGITS):
        return None
    if digits.startswith("0") and digits != "0":
        return None
    number = int(digits)
    if number > GREATEST_NUMBER:
        return None
    return number


def hexadecimal_from(digits):
    """Return the number that hexadecimal digits form, or None."""
    if digits == "" or len(digits) > LONGEST_HEXADECIMAL or not consists_of(digits, HEXADECIMAL_DIGITS):
        return None
    return int(digits, 16)


def consists_of(text, characters):
    """Tell whether all characters of a text are among these."""
    return all([character in characters for character in text])


def symbol_at(text, place):
    """Return the kind and the value of the symbol at a place, and the place behind it."""
    first = text[place]
    if first in SYMBOLS:
        return ("symbol", first, place + 1)
    if text[place:place + 2] == "..":
        return ("symbol", "..", place + 2)
    if first == "_" and run_end(text, place) == place + 1:
        return ("symbol", "_", place + 1)
    raise UnexpectedCharacter(place)
