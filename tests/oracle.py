"""What the document says about layouts, written down a second time in the slowest and plainest way.

Everything here goes through all records of a set one by one, so it serves small
sets only. A set of records is given by a *domain*, in which the values vary
independently: for an integer a list of integers; for an array or a list a pair
of the list of the numbers of elements and a list with a domain for each index;
for a choice a list of pairs of a name and a list of domains; for a record and
for a layout a list with a domain for each member.
"""

import itertools

BITS = {"u8": 8, "u16be": 16, "u16le": 16, "u32be": 32, "u32le": 32}


def members_of(layout):
    """Triples of name, kind and (width, signed, ranges, default) of an integer or the item of another member."""
    found = []
    for item in layout:
        if item[0] == "word":
            found += [(part[0], "integer", part[1:]) for part in item[2] if part[0] is not None]
        elif item[0] in ("array", "list", "choice", "record"):
            found.append((item[1], item[0], item))
    return found


def field_of_array(item):
    return (BITS[item[2]], item[3], item[5], item[6])


def numbers_of(count):
    """The allowed numbers of elements, point 43."""
    if count[0] == "exactly":
        return [count[1]]
    if count[0] == "counted":
        return list(range(count[2], count[3] + 1))
    return list(range(0, count[1] + 1))


def count_of(kind, item):
    return item[4] if kind == "array" else item[2]


def limits(width, signed):
    return (-2 ** (width - 1), 2 ** (width - 1) - 1) if signed else (0, 2 ** width - 1)


def integers_of(field, wide):
    """All allowed integers of a field of at most 8 bits; of a wider one those of a sample that it allows."""
    width, signed, ranges, _ = field
    low, high = limits(width, signed)
    numbers = range(low, high + 1) if width <= 8 else sorted(number for number in wide if low <= number <= high)
    return [n for n in numbers if ranges is None or any(a <= n <= b for a, b in ranges)]


def code(number, width):
    return number % 2 ** width


# Domains


def whole_domain(layout, wide=()):
    """The domain of all records, with a sample of integers for the fields of more than 8 bits."""
    found = []
    for _, kind, item in members_of(layout):
        if kind == "integer":
            found.append(integers_of(item, wide))
        elif kind == "choice":
            found.append([(name, whole_domain(items, wide)) for _, name, items in item[3]])
        elif kind == "record":
            found.append(whole_domain(item[2], wide))
        else:
            numbers = numbers_of(count_of(kind, item))
            inner = integers_of(field_of_array(item), wide) if kind == "array" else whole_domain(item[3], wide)
            found.append((numbers, [inner] * max(numbers)))
    return found


def random_domain(rng, domain, layout):
    """A random part of a domain, with at least one record."""
    found = []
    for (_, kind, item), inner in zip(members_of(layout), domain):
        if kind == "integer":
            found.append(some(rng, inner))
        elif kind == "choice":
            items = {name: items for _, name, items in item[3]}
            found.append([(name, random_domain(rng, part, items[name])) for name, part in some(rng, inner)])
        elif kind == "record":
            found.append(random_domain(rng, inner, item[2]))
        else:
            numbers = some(rng, inner[0])
            parts = [some(rng, part) if kind == "array" else random_domain(rng, part, item[3])
                     for part in inner[1][:max(numbers)]]
            found.append((numbers, parts))
    return found


def some(rng, values):
    """A random part of a list in its order, which is not empty."""
    if rng.random() < 0.3:
        return list(values)
    chosen = set(rng.sample(range(len(values)), rng.randint(1, min(len(values), 4))))
    return [value for index, value in enumerate(values) if index in chosen]


def records_in(layout, domain):
    """All records of a domain."""
    found = []
    for (_, kind, item), inner in zip(members_of(layout), domain):
        if kind == "integer":
            found.append(inner)
        elif kind == "choice":
            items = {name: items for _, name, items in item[3]}
            found.append([(name, record) for name, part in inner for record in records_in(items[name], part)])
        elif kind == "record":
            found.append(records_in(item[2], inner))
        else:
            parts = [part if kind == "array" else records_in(item[3], part) for part in inner[1]]
            found.append([value for number in inner[0] for value in itertools.product(*parts[:number])])
    return list(itertools.product(*found))


def many_in(layout, domain):
    """The number of records of a domain."""
    product = 1
    for (_, kind, item), inner in zip(members_of(layout), domain):
        if kind == "integer":
            product *= len(inner)
        elif kind == "choice":
            items = {name: items for _, name, items in item[3]}
            product *= sum(many_in(items[name], part) for name, part in inner)
        elif kind == "record":
            product *= many_in(item[2], inner)
        else:
            parts = [len(part) if kind == "array" else many_in(item[3], part) for part in inner[1]]
            total = 0
            for number in inner[0]:
                ways = 1
                for part in parts[:number]:
                    ways *= part
                total += ways
            product *= total
    return product


def fullest(layout, domain):
    """A record of a domain with as many elements as possible, and with the first possible case everywhere."""
    found = []
    for (_, kind, item), inner in zip(members_of(layout), domain):
        if kind == "integer":
            found.append(inner[0])
        elif kind == "choice":
            name, part = inner[0]
            found.append((name, fullest({name: items for _, name, items in item[3]}[name], part)))
        elif kind == "record":
            found.append(fullest(item[2], inner))
        else:
            parts = inner[1][:max(inner[0])]
            found.append(tuple(part[0] if kind == "array" else fullest(item[3], part) for part in parts))
    return tuple(found)


# Patterns, points 80 to 83


def set_form(numbers, width, signed):
    """The integer set of some integers, point 81."""
    numbers = sorted(set(numbers))
    codes = [code(number, width) for number in numbers]
    known = sum(2 ** bit for bit in range(width) if len({c >> bit & 1 for c in codes}) == 1)
    common = codes[0] & known
    if width <= 8:
        low, high = limits(width, signed)
        agreeing = [n for n in range(low, high + 1) if code(n, width) & known == common]
        is_full = agreeing == numbers
    else:
        is_full = len(numbers) == 2 ** (width - bin(known).count("1"))
    return ("bits", known, common) if is_full else ("among", tuple(numbers))


def pattern_of(layout, records):
    """The pattern of a set of records that is not empty, point 83."""
    found = []
    for place, (_, kind, item) in enumerate(members_of(layout)):
        values = [record[place] for record in records]
        if kind == "integer":
            found.append(set_form(values, item[0], item[1]))
        elif kind == "record":
            found.append(pattern_of(item[2], values))
        elif kind == "choice":
            cases = []
            for _, name, items in item[3]:
                inner = [record for case, record in values if case == name]
                if inner:
                    cases.append((name, pattern_of(items, inner)))
            found.append(("cases", tuple(cases)))
        else:
            numbers = tuple(sorted({len(value) for value in values}))
            entries = []
            for index in range(numbers[-1]):
                inner = [value[index] for value in values if len(value) > index]
                field = None if kind == "list" else field_of_array(item)
                entries.append(pattern_of(item[3], inner) if field is None else set_form(inner, field[0], field[1]))
            found.append(("counts", numbers, tuple(entries)))
    return tuple(found)


# Messages, points 60 and 61


def in_bytes(word, stored):
    return list(stored.to_bytes(BITS[word] // 8, "little" if word.endswith("le") else "big"))


def encoded(layout, record, fill=None, before=()):
    """The bytes of a layout behind the bytes before it; fill(bits) gives the free bits and reserved bytes."""
    if fill is None:
        fill = zeros
    data = list(before)
    values = iter(record)
    for item in layout:
        data = with_item(item, values, fill, data)
    return data[len(before):]


def zeros(_):
    return 0


def with_item(item, values, fill, data):
    kind = item[0]
    if kind == "word":
        stored = 0
        for name, width, _, _, _ in item[2]:
            stored = stored * 2 ** width + (fill(width) if name is None else code(next(values), width))
        return data + in_bytes(item[1], stored)
    if kind == "literal":
        return data + list(item[1])
    if kind == "reserved":
        return data + [fill(8) for _ in range(item[1])]
    if kind == "check":
        byte = 0
        for other in data:
            byte = (byte + other) % 256 if item[1] == "sum" else byte ^ other
        return data + [byte]
    value = next(values)
    if kind == "record":
        return data + encoded(item[2], value, fill, data)
    if kind == "choice":
        number, items = {name: (number, items) for number, name, items in item[3]}[value[0]]
        data = data + in_bytes(item[2], number)
        return data + encoded(items, value[1], fill, data)
    count = count_of(kind, item)
    if count[0] == "counted":
        data = data + in_bytes(count[1], len(value))
    for part in value:
        if count[0] == "marked":
            data = data + [1]
        if kind == "array":
            data = data + in_bytes(item[2], code(part, BITS[item[2]]))
        else:
            data = data + encoded(item[3], part, fill, data)
    return data + [0] if count[0] == "marked" else data


def messages_for(layout, record, alternatives=None):
    """All messages that store a record; alternatives(bits) are the values that free bits and bytes have."""
    sizes = []

    def note(bits):
        sizes.append(bits)
        return 0

    encoded(layout, record, note)
    choices = [alternatives(bits) if alternatives else range(2 ** bits) for bits in sizes]
    for chosen in itertools.product(*choices):
        given = iter(chosen)
        yield encoded(layout, record, lambda _: next(given))


def common_start(messages):
    """The longest sequence of bytes with which all messages begin."""
    shared = messages[0]
    for message in messages[1:]:
        many = 0
        while many < min(len(shared), len(message)) and shared[many] == message[many]:
            many += 1
        shared = shared[:many]
    return shared


# Facts and paths, points 47, 63 and 64


def facts_about(layout, record, start=""):
    found = []
    for (name, kind, item), value in zip(members_of(layout), record):
        path = start + name
        if kind == "integer":
            found.append((path, value))
        elif kind == "record":
            found += facts_about(item[2], value, path + ".")
        elif kind == "choice":
            found.append((path + ".case", value[0]))
            items = {name: items for _, name, items in item[3]}
            found += facts_about(items[value[0]], value[1], path + ".value.")
        else:
            found.append((path + ".length", len(value)))
            for index, part in enumerate(value):
                if kind == "array":
                    found.append((f"{path}[{index}]", part))
                else:
                    found += facts_about(item[3], part, f"{path}[{index}].")
    return found


def certain_in(layout, domain):
    """The facts that are certain in the set of a domain, point 103."""
    common = None
    for record in records_in(layout, domain):
        facts = set(facts_about(layout, record))
        common = facts if common is None else common & facts
    return [fact for fact in facts_about(layout, fullest(layout, domain)) if fact in common]


def is_allowed(field, number):
    width, signed, ranges, _ = field
    low, high = limits(width, signed)
    return low <= number <= high and (ranges is None or any(a <= number <= b for a, b in ranges))


def wrong_path(layout, record, start=""):
    """The path of the first value that is not allowed, point 63."""
    for (name, kind, item), value in zip(members_of(layout), record):
        path = start + name
        wrong = None
        if kind == "integer":
            wrong = None if is_allowed(item, value) else path
        elif kind == "record":
            wrong = wrong_path(item[2], value, path + ".")
        elif kind == "choice":
            items = {name: items for _, name, items in item[3]}
            wrong = wrong_path(items[value[0]], value[1], path + ".value.") if value[0] in items else path
        elif len(value) not in numbers_of(count_of(kind, item)):
            wrong = path
        else:
            for index, part in enumerate(value):
                if kind == "list":
                    wrong = wrong_path(item[3], part, f"{path}[{index}].")
                elif not is_allowed(field_of_array(item), part):
                    wrong = f"{path}[{index}]"
                if wrong:
                    break
        if wrong:
            return wrong
    return None
