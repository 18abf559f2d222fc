"""The errors of the package, one class for each kind of failure."""


class BridgeError(ValueError):
    """The base class of all errors of the package."""


class InvalidMember(BridgeError):
    """A value at a path of a record is not allowed."""

    def __init__(self, path):
        BridgeError.__init__(self, f"the value of {path} is not allowed")
        self.path = path


class UnexpectedByte(BridgeError):
    """No message has the byte at an offset after the bytes before it."""

    def __init__(self, place):
        BridgeError.__init__(self, f"the byte at offset {place} is unexpected")
        self.place = place


class UnexpectedEnd(BridgeError):
    """The bytes of a message end too early."""

    def __init__(self):
        BridgeError.__init__(self, "the message is not complete")


class UnknownMember(BridgeError):
    """A layout has no member with a name."""

    def __init__(self, name):
        BridgeError.__init__(self, f"the layout has no member {name}")
        self.name = name


class AlreadySet(BridgeError):
    """A member of a composer has been set before."""

    def __init__(self, name):
        BridgeError.__init__(self, f"the member {name} has been set before")
        self.name = name


class KindsDiffer(BridgeError):
    """Two matched members cannot be linked."""

    def __init__(self, path):
        BridgeError.__init__(self, f"the two members {path} do not go together")
        self.path = path


class MissingDefault(BridgeError):
    """A member of the target is not matched and has no default value."""

    def __init__(self, path):
        BridgeError.__init__(self, f"the member {path} has no default value")
        self.path = path


class NothingConvertible(BridgeError):
    """No record of the source of a bridge can be converted."""

    def __init__(self):
        BridgeError.__init__(self, "no record of the source is convertible")


class NotConvertible(BridgeError):
    """A record of the source of a bridge cannot be converted."""

    def __init__(self):
        BridgeError.__init__(self, "the record is not convertible")


class UnknownField(BridgeError):
    """A view has no field with a name."""

    def __init__(self, path):
        BridgeError.__init__(self, f"the view has no field {path}")
        self.path = path


class BadPlan(BridgeError):
    """A plan is not sound: a step of one of its two parts is bad."""

    def __init__(self, part, place):
        BridgeError.__init__(self, f"the step {place} of {part} is bad")
        self.part = part
        self.place = place


class TextError(BridgeError):
    """The base class of the errors of texts: one for each kind of failure at an offset."""

    def __init__(self, place):
        BridgeError.__init__(self, f"at offset {place} of the text")
        self.place = place


class WordTooLong(TextError):
    """A word has too many characters."""


class InvalidNumber(TextError):
    """A digit or a minus sign does not begin a number."""


class UnexpectedCharacter(TextError):
    """A character is not part of a token."""


class ItemExpected(TextError):
    """A token does not begin an item where an item can stand."""


class NameExpected(TextError):
    """There is no name where one is required."""


class DuplicateName(TextError):
    """A name occurs twice in one scope or in one choice."""


class WordExpected(TextError):
    """There is no word of bits where one is required."""


class CountExpected(TextError):
    """There is no count where one is required."""


class NumberExpected(TextError):
    """There is no number from the least to the greatest where one is required."""

    def __init__(self, place, least, greatest):
        TextError.__init__(self, place)
        self.least = least
        self.greatest = greatest


class DuplicateNumber(TextError):
    """Two cases of one choice have the same number."""


class BitsLeft(TextError):
    """The parts of a word leave some of its bits."""

    def __init__(self, place, bits):
        TextError.__init__(self, place)
        self.bits = bits


class RangesNotAllowed(TextError):
    """A field with too many bits has ranges."""


class DefaultNotAllowed(TextError):
    """A default is not an allowed integer of its field."""


class NestedTooDeeply(TextError):
    """Too many lists, choices and records stand inside one another."""


class EmptyElements(TextError):
    """An element of a list can consist of no bytes at all."""


class CheckExpected(TextError):
    """There is no method of a check byte where one is required."""


class SymbolExpected(TextError):
    """A symbol does not stand where it is required."""

    def __init__(self, place, symbol):
        TextError.__init__(self, place)
        self.symbol = symbol


class MessageTooLong(BridgeError):
    """The longest message of a layout has too many bytes."""

    def __init__(self, size):
        BridgeError.__init__(self, f"the longest message has {size} bytes")
        self.size = size
