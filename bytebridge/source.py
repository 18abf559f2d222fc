"""Texts of layouts: parsed from left to right, token by token.

The dict taken has the names of one scope that occurred so far. The depth is the
number of lists, choices and records around an item.
"""

from bytebridge.errors import BitsLeft, CheckExpected, CountExpected, DefaultNotAllowed, DuplicateName
from bytebridge.errors import DuplicateNumber, EmptyElements, ItemExpected, MessageTooLong, NameExpected
from bytebridge.errors import NestedTooDeeply, NumberExpected, RangesNotAllowed, SymbolExpected, WordExpected
from bytebridge.integers import all_bits, integers_of, is_allowed
from bytebridge.layouts import sizes
from bytebridge.numbers import word_size
from bytebridge.tokens import tokens_of

WORDS = ("u8", "u16be", "u16le", "u32be", "u32le")
SIGNED_KINDS = ("i8", "i16be", "i16le", "i32be", "i32le")
METHODS = ("sum", "xor")

MOST_ELEMENTS = 60
MOST_RESERVED = 60
DEEPEST = 3
WIDEST_WITH_RANGES = 8
LONGEST_MESSAGE = 400


class Cursor:
    """The next token of a text. The end of the text counts as a token."""

    def __init__(self, text):
        self._tokens = tokens_of(text) + [("end", "", len(text))]
        self._next = 0
        self.kind, self.value, self.place = self._tokens[0]

    def advance(self):
        """Go on to the token behind this one, and return the value of this one."""
        value = self.value
        self._next += 1
        self.kind, self.value, self.place = self._tokens[self._next]
        return value

    def at_word(self, word):
        """Tell whether the next token is this word."""
        return self.kind == "word" and self.value == word

    def at_one_of(self, words):
        """Tell whether the next token is one of some words."""
        return self.kind == "word" and self.value in words

    def at_symbol(self, symbol):
        """Tell whether the next token is this symbol."""
        return self.kind == "symbol" and self.value == symbol

    def symbol_behind(self, symbol):
        """Tell whether the token behind the next one is this symbol."""
        kind, value, _ = self._tokens[self._next + 1]
        return kind == "symbol" and value == symbol

    def require(self, symbol):
        """Read a symbol, which must be this one."""
        if not self.at_symbol(symbol):
            raise SymbolExpected(self.place, symbol)
        self.advance()

    def number_from_to(self, least, greatest):
        """Read a number that is neither less than the least one nor greater than the greatest one."""
        if self.kind != "number" or not least <= self.value <= greatest:
            raise NumberExpected(self.place, least, greatest)
        return self.advance()

    def word_of_bits(self):
        """Read one of the five words that store codes."""
        if not self.at_one_of(WORDS):
            raise WordExpected(self.place)
        return self.advance()

    def new_name(self, taken):
        """Read a name that is not taken yet, and take it."""
        if self.kind != "word":
            raise NameExpected(self.place)
        if self.value in taken:
            raise DuplicateName(self.place)
        taken[self.value] = True
        return self.advance()


def read_layout(text):
    """Return the layout that a text means."""
    cursor = Cursor(text)
    taken = {}
    found = []
    while cursor.kind != "end":
        found.append(parse_item(cursor, taken, 0))
    layout = tuple(found)
    _, longest = sizes(layout)
    if longest > LONGEST_MESSAGE:
        raise MessageTooLong(longest)
    return layout


def parse_item(cursor, taken, depth):
    """Read an item."""
    if cursor.at_one_of(WORDS) or cursor.at_one_of(SIGNED_KINDS):
        return parse_integers(cursor, taken)
    if cursor.at_word("bits"):
        return parse_bits(cursor, taken)
    if cursor.at_word("list"):
        return parse_list(cursor, taken, depth)
    if cursor.at_word("choice"):
        return parse_choice(cursor, taken, depth)
    if cursor.at_word("record"):
        return parse_record(cursor, taken, depth)
    return parse_nameless(cursor)


def parse_nameless(cursor):
    """Read an item that defines no members."""
    if cursor.at_word("literal"):
        return parse_literal(cursor)
    if cursor.at_word("reserved"):
        return parse_reserved(cursor)
    if cursor.at_word("check"):
        return parse_check(cursor)
    raise ItemExpected(cursor.place)


def parse_integers(cursor, taken):
    """Read an integer that fills a word, or an array."""
    kind = cursor.advance()
    signed = kind in SIGNED_KINDS
    word = "u" + kind[1:]
    width = 8 * word_size(word)
    name = cursor.new_name(taken)
    if cursor.at_symbol("["):
        count = parse_count(cursor)
        ranges, default = parse_clauses(cursor, width, signed)
        cursor.require(";")
        return ("array", name, word, signed, count, ranges, default)
    ranges, default = parse_clauses(cursor, width, signed)
    cursor.require(";")
    return ("word", word, ((name, width, signed, ranges, default),))


def parse_bits(cursor, taken):
    """Read a word that is divided into parts."""
    cursor.advance()
    word = cursor.word_of_bits()
    cursor.require("{")
    parts = []
    left = 8 * word_size(word)
    while left > 0:
        if cursor.at_symbol("}"):
            raise BitsLeft(cursor.place, left)
        part = parse_part(cursor, taken, left)
        parts.append(part)
        left -= part[1]
    cursor.require("}")
    return ("word", word, tuple(parts))


def parse_part(cursor, taken, left):
    """Read a part of a word of which some bits are left."""
    if cursor.at_symbol("_"):
        cursor.advance()
        width = parse_width(cursor, left)
        cursor.require(";")
        return (None, width, False, None, None)
    # A part whose name is signed is told from a signed part by what stands behind the word.
    signed = cursor.at_word("signed") and not cursor.symbol_behind(":")
    if signed:
        cursor.advance()
    name = cursor.new_name(taken)
    width = parse_width(cursor, left)
    ranges, default = parse_clauses(cursor, width, signed)
    cursor.require(";")
    return (name, width, signed, ranges, default)


def parse_width(cursor, left):
    """Read the width of a part of a word of which some bits are left."""
    cursor.require(":")
    return cursor.number_from_to(1, left)


def parse_count(cursor):
    """Read a count in its brackets."""
    cursor.require("[")
    count = parse_bare_count(cursor)
    cursor.require("]")
    return count


def parse_bare_count(cursor):
    """Read a count without its brackets."""
    if cursor.kind == "number":
        return ("exactly", cursor.number_from_to(1, MOST_ELEMENTS))
    if cursor.at_word("marked"):
        cursor.advance()
        return ("marked", cursor.number_from_to(1, MOST_ELEMENTS))
    if not cursor.at_one_of(WORDS):
        raise CountExpected(cursor.place)
    word = cursor.advance()
    least = cursor.number_from_to(0, MOST_ELEMENTS)
    cursor.require("..")
    greatest = cursor.number_from_to(max(1, least), MOST_ELEMENTS)
    return ("counted", word, least, greatest)


def parse_clauses(cursor, width, signed):
    """Read the ranges and the default of a field, and return them; None for what is not there."""
    ranges = None
    default = None
    if cursor.at_word("in"):
        ranges = parse_ranges(cursor, width, signed)
    if cursor.at_word("default"):
        cursor.advance()
        place = cursor.place
        least, greatest = integers_of(width, signed)
        default = cursor.number_from_to(least, greatest)
        if not is_allowed(("integer", "", width, signed, ranges, None), default):
            raise DefaultNotAllowed(place)
    return (ranges, default)


def parse_ranges(cursor, width, signed):
    """Read the ranges of a field, and return them in the form that they have in a layout."""
    if width > WIDEST_WITH_RANGES:
        raise RangesNotAllowed(cursor.place)
    least, greatest = integers_of(width, signed)
    found = []
    more = True
    # The word in and each comma have a range behind them.
    while more:
        cursor.advance()
        low = cursor.number_from_to(least, greatest)
        high = low
        if cursor.at_symbol(".."):
            cursor.advance()
            high = cursor.number_from_to(low, greatest)
        found.append((low, high))
        more = cursor.at_symbol(",")
    return joined_ranges(found)


def joined_ranges(ranges):
    """Return the tuple of the ranges in ascending order that cover the same integers, with gaps between them."""
    found = []
    for low, high in sorted(ranges):
        if found and low <= found[-1][1] + 1:
            first, last = found.pop()
            found.append((first, max(last, high)))
        else:
            found.append((low, high))
    return tuple(found)


def parse_list(cursor, taken, depth):
    """Read a list."""
    place = cursor.place
    cursor.advance()
    name = cursor.new_name(taken)
    count = parse_count(cursor)
    enter(cursor, depth)
    items = parse_scope(cursor, depth + 1)
    least, _ = sizes(items)
    if least == 0:
        raise EmptyElements(place)
    return ("list", name, count, items)


def parse_record(cursor, taken, depth):
    """Read a record."""
    cursor.advance()
    name = cursor.new_name(taken)
    enter(cursor, depth)
    return ("record", name, parse_scope(cursor, depth + 1))


def parse_choice(cursor, taken, depth):
    """Read a choice."""
    cursor.advance()
    name = cursor.new_name(taken)
    word = cursor.word_of_bits()
    enter(cursor, depth)
    greatest = all_bits(8 * word_size(word))
    names = {}
    numbers = {}
    cases = []
    while not cases or not cursor.at_symbol("}"):
        place = cursor.place
        number = cursor.number_from_to(0, greatest)
        if number in numbers:
            raise DuplicateNumber(place)
        numbers[number] = True
        case = cursor.new_name(names)
        cursor.require("{")
        cases.append((number, case, parse_scope(cursor, depth + 1)))
    cursor.advance()
    return ("choice", name, word, tuple(cases))


def enter(cursor, depth):
    """Read the opening brace of a list, a choice or a record."""
    if cursor.at_symbol("{") and depth == DEEPEST:
        raise NestedTooDeeply(cursor.place)
    cursor.require("{")


def parse_scope(cursor, depth):
    """Read the items of a list, a case or a record up to the closing brace, and the brace."""
    taken = {}
    found = []
    while not cursor.at_symbol("}"):
        found.append(parse_item(cursor, taken, depth))
    cursor.advance()
    return tuple(found)


def parse_literal(cursor):
    """Read a literal."""
    cursor.advance()
    data = [cursor.number_from_to(0, 255)]
    while not cursor.at_symbol(";"):
        data.append(cursor.number_from_to(0, 255))
    cursor.advance()
    return ("literal", tuple(data))


def parse_reserved(cursor):
    """Read reserved bytes."""
    cursor.advance()
    size = cursor.number_from_to(1, MOST_RESERVED)
    cursor.require(";")
    return ("reserved", size)


def parse_check(cursor):
    """Read a check byte."""
    cursor.advance()
    if not cursor.at_one_of(METHODS):
        raise CheckExpected(cursor.place)
    method = cursor.advance()
    cursor.require(";")
    return ("check", method)
