"""Texts for layouts in many forms, from a seed: point 222 backwards."""

import random


class Writer:
    """Writes texts that mean a given layout: with other blanks, other forms of numbers and other ranges each time."""

    def __init__(self, seed):
        self.rng = random.Random(seed)

    def text(self, layout):
        tokens = [token for item in layout for token in self.item(item)]
        found = self.blanks(["", " ", "\n"])
        for token, behind in zip(tokens, tokens[1:] + [""]):
            found += token
            # A blank is needed only where two tokens would be read as one.
            joined = token[-1].isalnum() or token[-1] == "_"
            joined = joined and bool(behind) and (behind[0].isalnum() or behind[0] == "_")
            found += self.blanks([" ", "\t", "\n", "  \n"] if joined else ["", "", " ", "\n\t"])
        return found

    def blanks(self, choices):
        return self.rng.choice(choices)

    def number(self, number):
        form = self.rng.choice(["d", "d", "d", "x", "X", "08x"])
        digits = format(abs(number), form)
        digits = digits if form == "d" else "0x" + digits
        if number == 0:
            return self.rng.choice(["0", "-0", "0x0", "-0x00", digits])
        return "-" + digits if number < 0 else digits

    def item(self, item):
        kind = item[0]
        if kind == "word":
            return self.word(item[1], item[2])
        if kind == "array":
            _, name, word, signed, count, ranges, default = item
            head = ["i" + word[1:] if signed else word, name]
            return head + self.count(count) + self.clauses(ranges, default) + [";"]
        if kind == "list":
            return ["list", item[1]] + self.count(item[2]) + self.braces(item[3])
        if kind == "choice":
            cases = [token for number, name, items in item[3]
                     for token in [self.number(number), name] + self.braces(items)]
            return ["choice", item[1], item[2], "{"] + cases + ["}"]
        if kind == "record":
            return ["record", item[1]] + self.braces(item[2])
        if kind == "literal":
            return ["literal"] + [self.number(byte) for byte in item[1]] + [";"]
        if kind == "reserved":
            return ["reserved", self.number(item[1]), ";"]
        return ["check", item[1], ";"]

    def braces(self, items):
        return ["{"] + [token for item in items for token in self.item(item)] + ["}"]

    def word(self, word, parts):
        name, _, signed, ranges, default = parts[0]
        if len(parts) == 1 and name is not None and self.rng.random() < 0.7:
            return ["i" + word[1:] if signed else word, name] + self.clauses(ranges, default) + [";"]
        found = ["bits", word, "{"]
        for name, width, signed, ranges, default in parts:
            if name is None:
                found += ["_", ":", self.number(width), ";"]
            else:
                found += ["signed"] if signed else []
                found += [name, ":", self.number(width)] + self.clauses(ranges, default) + [";"]
        return found + ["}"]

    def count(self, count):
        if count[0] == "exactly":
            inner = [self.number(count[1])]
        elif count[0] == "counted":
            inner = [count[1], self.number(count[2]), "..", self.number(count[3])]
        else:
            inner = ["marked", self.number(count[1])]
        return ["["] + inner + ["]"]

    def clauses(self, ranges, default):
        found = []
        if ranges is not None:
            for low, high in self.scattered(ranges):
                found += ["," if found else "in", self.number(low)]
                if low < high or self.rng.random() < 0.3:
                    found += ["..", self.number(high)]
        if default is not None:
            found += ["default", self.number(default)]
        return found

    def scattered(self, ranges):
        """Ranges in any order that cover the same integers, some of them cut into pieces that overlap or touch."""
        found = []
        for low, high in ranges:
            if self.rng.random() < 0.5:
                middle = self.rng.randint(low, high)
                found += [(low, middle), (max(low, middle - 1), high)]
                found += [(middle + 1, high)] if middle < high else [(middle, middle)]
            else:
                found.append((low, high))
        self.rng.shuffle(found)
        return found
