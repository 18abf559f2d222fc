"""Tests of bytebridge.errors: points 5 and 223, and its section of the interface."""

import unittest

from bytebridge import errors

# For each class its base class and its attributes, in the order of the interface.
INTERFACE = {
    "BridgeError": ("ValueError", ()),
    "InvalidMember": ("BridgeError", ("path",)),
    "UnexpectedByte": ("BridgeError", ("place",)),
    "UnexpectedEnd": ("BridgeError", ()),
    "UnknownMember": ("BridgeError", ("name",)),
    "AlreadySet": ("BridgeError", ("name",)),
    "KindsDiffer": ("BridgeError", ("path",)),
    "MissingDefault": ("BridgeError", ("path",)),
    "NothingConvertible": ("BridgeError", ()),
    "NotConvertible": ("BridgeError", ()),
    "UnknownField": ("BridgeError", ("path",)),
    "BadPlan": ("BridgeError", ("part", "place")),
    "TextError": ("BridgeError", ("place",)),
    "WordTooLong": ("TextError", ("place",)),
    "InvalidNumber": ("TextError", ("place",)),
    "UnexpectedCharacter": ("TextError", ("place",)),
    "ItemExpected": ("TextError", ("place",)),
    "NameExpected": ("TextError", ("place",)),
    "DuplicateName": ("TextError", ("place",)),
    "WordExpected": ("TextError", ("place",)),
    "CountExpected": ("TextError", ("place",)),
    "NumberExpected": ("TextError", ("place", "least", "greatest")),
    "DuplicateNumber": ("TextError", ("place",)),
    "BitsLeft": ("TextError", ("place", "bits")),
    "RangesNotAllowed": ("TextError", ("place",)),
    "DefaultNotAllowed": ("TextError", ("place",)),
    "NestedTooDeeply": ("TextError", ("place",)),
    "EmptyElements": ("TextError", ("place",)),
    "CheckExpected": ("TextError", ("place",)),
    "SymbolExpected": ("TextError", ("place", "symbol")),
    "MessageTooLong": ("BridgeError", ("size",)),
}

# Values of the kinds that the attributes have, least ones among them.
VALUES = {
    "path": ("mode.value.since", "samples[3]", ""),
    "place": (7, 0, 2000),
    "name": ("size", "", "no member"),
    "part": ("reading", "writing", "reading"),
    "least": (-128, 0, -2147483648),
    "greatest": (127, 4294967295, 0),
    "bits": (5, 1, 32),
    "symbol": (";", "..", "}"),
    "size": (401, 500, 1000000),
}


def class_of(name):
    return getattr(errors, name)


def examples(name):
    """Yield lists of arguments with which an error can be created."""
    _, attributes = INTERFACE[name]
    for number in range(3):
        yield [VALUES[attribute][number] for attribute in attributes]


class ErrorTest(unittest.TestCase):
    def test_every_class_is_defined_here_with_its_base_class(self):
        for name, (base, _) in INTERFACE.items():
            with self.subTest(name=name):
                expected = ValueError if base == "ValueError" else class_of(base)
                self.assertEqual(class_of(name).__bases__, (expected,))
                self.assertEqual(class_of(name).__module__, "bytebridge.errors")
                self.assertEqual(class_of(name).__name__, name)

    def test_the_attributes_are_the_arguments_in_order(self):
        for name, (_, attributes) in INTERFACE.items():
            for values in examples(name):
                with self.subTest(name=name, values=values):
                    error = class_of(name)(*values)
                    for attribute, value in zip(attributes, values):
                        self.assertEqual(getattr(error, attribute), value)
                    self.assertEqual(sorted(vars(error)), sorted(attributes))

    def test_no_other_number_of_arguments_is_taken_where_attributes_are_listed(self):
        for name, (_, attributes) in INTERFACE.items():
            if attributes:
                values = next(examples(name))
                with self.subTest(name=name):
                    self.assertRaises(TypeError, class_of(name), *values[:-1])
                    self.assertRaises(TypeError, class_of(name), *values, 1)

    def test_each_error_is_caught_as_its_own_class_and_its_bases_only(self):
        for name in INTERFACE:
            expected = {name, "BridgeError"}
            if INTERFACE[name][0] == "TextError":
                expected.add("TextError")
            with self.subTest(name=name):
                error = class_of(name)(*next(examples(name)))
                self.assertIsInstance(error, ValueError)
                caught = {other for other in INTERFACE if isinstance(error, class_of(other))}
                self.assertEqual(caught, expected)

    def test_the_errors_of_texts_are_those_of_the_table(self):
        of_texts = {name for name in INTERFACE if issubclass(class_of(name), errors.TextError)}
        table = """WordTooLong InvalidNumber UnexpectedCharacter ItemExpected NameExpected
            DuplicateName WordExpected CountExpected NumberExpected DuplicateNumber BitsLeft
            RangesNotAllowed DefaultNotAllowed NestedTooDeeply EmptyElements CheckExpected
            SymbolExpected"""
        self.assertEqual(of_texts, {"TextError", *table.split()})

    def test_errors_can_be_raised_and_caught(self):
        for name in INTERFACE:
            with self.subTest(name=name):
                error = class_of(name)(*next(examples(name)))
                with self.assertRaises(class_of(name)) as caught:
                    raise error
                self.assertIs(caught.exception, error)

    def test_attributes_of_one_error_do_not_change_with_another_one(self):
        first = errors.NumberExpected(11, 3, 255)
        errors.NumberExpected(12, 4, 256)
        self.assertEqual((first.place, first.least, first.greatest), (11, 3, 255))
        first = errors.BadPlan("reading", 0)
        errors.BadPlan("writing", 1)
        self.assertEqual((first.part, first.place), ("reading", 0))


if __name__ == "__main__":
    unittest.main()
