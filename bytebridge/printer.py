"""The printed form of layouts.

Lines are made without the spaces before them; braces around lines indent them.
"""


def show_layout(layout):
    """Return the printed form of a layout, a string."""
    return "".join([line + "\n" for line in layout_lines(layout)])


def layout_lines(layout):
    """Return the list of the lines of a layout."""
    found = []
    for item in layout:
        found.extend(item_lines(item))
    return found


def braced(head, lines):
    """Return the list of the lines of an item or a case with braces around these lines."""
    return [head + " {"] + ["  " + line for line in lines] + ["}"]


def item_lines(item):
    """Return the list of the lines of an item."""
    kind = item[0]
    if kind == "word":
        return word_lines(item)
    if kind == "array":
        _, name, word, signed, count, ranges, default = item
        return [f"{kind_word(word, signed)} {name}[{count_text(count)}]{clauses(ranges, default)};"]
    if kind == "list":
        _, name, count, items = item
        return braced(f"list {name}[{count_text(count)}]", layout_lines(items))
    if kind == "choice":
        return choice_lines(item)
    if kind == "record":
        _, name, items = item
        return braced(f"record {name}", layout_lines(items))
    if kind == "literal":
        bytes_text = " ".join([str(byte) for byte in item[1]])
        return [f"literal {bytes_text};"]
    return [f"{kind} {item[1]};"]


def word_lines(item):
    """Return the list of the lines of a word item."""
    _, word, parts = item
    name, _, signed, ranges, default = parts[0]
    if len(parts) == 1 and name is not None:
        return [f"{kind_word(word, signed)} {name}{clauses(ranges, default)};"]
    return braced(f"bits {word}", [part_line(part) for part in parts])


def part_line(part):
    """Return the line of a part of a word."""
    name, width, signed, ranges, default = part
    if name is None:
        return f"_: {width};"
    field = f"{name}: {width}{clauses(ranges, default)};"
    if signed:
        return "signed " + field
    return field


def choice_lines(item):
    """Return the list of the lines of a choice."""
    _, name, word, cases = item
    lines = []
    for number, case, items in cases:
        lines.extend(braced(f"{number} {case}", layout_lines(items)))
    return braced(f"choice {name} {word}", lines)


def kind_word(word, signed):
    """Return the word with which an integer or an array begins."""
    if signed:
        return "i" + word[1:]
    return word


def count_text(count):
    """Return the text of a count."""
    if count[0] == "exactly":
        return str(count[1])
    if count[0] == "marked":
        return f"marked {count[1]}"
    _, word, least, greatest = count
    return f"{word} {least}..{greatest}"


def clauses(ranges, default):
    """Return the text of the ranges and the default of a field, with a space before each of them."""
    found = ""
    if ranges is not None:
        found = " in " + ", ".join([range_text(low, high) for low, high in ranges])
    if default is not None:
        found = f"{found} default {default}"
    return found


def range_text(low, high):
    """Return the text of a range."""
    if low == high:
        return str(low)
    return f"{low}..{high}"
