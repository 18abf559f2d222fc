"""What the document says about bridges, written down a second time, record by record: points 140 to 148."""

from oracle import count_of, field_of_array, is_allowed, limits, members_of, numbers_of


def by_name(layout):
    return {name: (kind, item) for name, kind, item in members_of(layout)}


def cases_of(item):
    return {name: items for _, name, items in item[3]}


def go_together(first, second):
    if first[1] != second[1]:
        return False
    return not first[1] or first[0] == second[0]


def error_of(source, target, start=""):
    """The name and the path of the first error of point 143, or None; without NothingConvertible."""
    sources = by_name(source)
    for name, kind, item in members_of(target):
        path = start + name
        if name not in sources:
            if default_of(kind, item) is None:
                return ("MissingDefault", path)
            continue
        other_kind, other = sources[name]
        found = None
        if kind != other_kind:
            found = ("KindsDiffer", path)
        elif kind == "integer":
            found = None if go_together(other, item) else ("KindsDiffer", path)
        elif kind == "array":
            together = go_together(field_of_array(other), field_of_array(item))
            found = None if together else ("KindsDiffer", path + "[]")
        elif kind == "list":
            found = error_of(other[3], item[3], path + "[].")
        elif kind == "record":
            found = error_of(other[2], item[2], path + ".")
        else:
            for _, case, items in item[3]:
                if case in cases_of(other) and found is None:
                    found = error_of(cases_of(other)[case], items, f"{path}.{case}.")
        if found:
            return found
    return None


def default_of(kind, item):
    """The default value of a member of the target, or None: point 142."""
    if kind == "integer":
        return item[3]
    if kind == "choice":
        return None
    if kind == "record":
        values = [default_of(inner_kind, inner) for _, inner_kind, inner in members_of(item[2])]
        return None if None in values else tuple(values)
    least = min(numbers_of(count_of(kind, item)))
    if least == 0:
        return ()
    part = item[6] if kind == "array" else default_of("record", ("record", "", item[3]))
    return None if part is None else (part,) * least


def is_convertible(source, target, record):
    """Point 144."""
    targets = by_name(target)
    for (name, kind, item), value in zip(members_of(source), record):
        if name in targets and not value_is_convertible(kind, item, targets[name][1], value):
            return False
    return True


def value_is_convertible(kind, item, other, value):
    if kind == "integer":
        return is_allowed(other, value)
    if kind == "record":
        return is_convertible(item[2], other[2], value)
    if kind == "choice":
        case, record = value
        return case in cases_of(other) and is_convertible(cases_of(item)[case], cases_of(other)[case], record)
    if len(value) not in numbers_of(count_of(kind, other)):
        return False
    if kind == "array":
        return all(is_allowed(field_of_array(other), part) for part in value)
    return all(is_convertible(item[3], other[3], part) for part in value)


def conversion(source, target, record):
    """Point 145."""
    values = {name: value for (name, _, _), value in zip(members_of(source), record)}
    sources = by_name(source)
    found = []
    for name, kind, item in members_of(target):
        if name not in sources:
            found.append(default_of(kind, item))
            continue
        value = values[name]
        other = sources[name][1]
        if kind == "record":
            value = conversion(other[2], item[2], value)
        elif kind == "choice":
            value = (value[0], conversion(cases_of(other)[value[0]], cases_of(item)[value[0]], value[1]))
        elif kind == "list":
            value = tuple(conversion(other[3], item[3], part) for part in value)
        found.append(value)
    return tuple(found)


# Reports, point 148


def fields_narrow(field, other):
    """Whether there is an integer that the first field allows and the second one does not."""
    ends = []
    for width, signed, ranges, _ in (field, other):
        for low, high in [limits(width, signed)] + list(ranges or ()):
            ends += [low - 1, low, high, high + 1]
    return any(is_allowed(field, number) and not is_allowed(other, number) for number in ends)


def narrowed_paths(source, target, start=""):
    targets = by_name(target)
    found = []
    for name, kind, item in members_of(source):
        if name not in targets:
            continue
        other = targets[name][1]
        path = start + name
        if kind == "integer":
            found += [path] if fields_narrow(item, other) else []
        elif kind == "record":
            found += narrowed_paths(item[2], other[2], path + ".")
        elif kind == "choice":
            for _, case, items in item[3]:
                if case in cases_of(other):
                    found += narrowed_paths(items, cases_of(other)[case], f"{path}.{case}.")
                else:
                    found.append(f"{path}.{case}")
        else:
            if not set(numbers_of(count_of(kind, item))) <= set(numbers_of(count_of(kind, other))):
                found.append(path)
            if kind == "list":
                found += narrowed_paths(item[3], other[3], path + "[].")
            elif fields_narrow(field_of_array(item), field_of_array(other)):
                found.append(path + "[]")
    return found


def filled_paths(source, target, start=""):
    sources = by_name(source)
    found = []
    for name, kind, item in members_of(target):
        path = start + name
        if name not in sources:
            found.append(path)
        elif kind == "record":
            found += filled_paths(sources[name][1][2], item[2], path + ".")
        elif kind == "list":
            found += filled_paths(sources[name][1][3], item[3], path + "[].")
        elif kind == "choice":
            for _, case, items in item[3]:
                if case in cases_of(sources[name][1]):
                    found += filled_paths(cases_of(sources[name][1])[case], items, f"{path}.{case}.")
    return found


def lost_paths(source, target, records):
    """The lost paths, from the list of all convertible records."""
    values = {}
    for record in records:
        for member_path, path, value in unmatched_values(source, target, record, "", ""):
            values.setdefault(member_path, {}).setdefault(path, set()).add(value)
    found = {member_path for member_path, paths in values.items() if any(len(seen) > 1 for seen in paths.values())}
    return [path for path in unmatched_paths(source, target) if path in found]


def unmatched_paths(source, target, start=""):
    """The member paths of all members of the source that are not matched although their scope is, in order."""
    targets = by_name(target)
    found = []
    for name, kind, item in members_of(source):
        path = start + name
        if name not in targets:
            found.append(path)
        elif kind == "record":
            found += unmatched_paths(item[2], targets[name][1][2], path + ".")
        elif kind == "list":
            found += unmatched_paths(item[3], targets[name][1][3], path + "[].")
        elif kind == "choice":
            for _, case, items in item[3]:
                if case in cases_of(targets[name][1]):
                    found += unmatched_paths(items, cases_of(targets[name][1])[case], f"{path}.{case}.")
    return found


def unmatched_values(source, target, record, member_start, start):
    """Triples of the member path, the path and the value of what is not matched in a convertible record."""
    targets = by_name(target)
    found = []
    for (name, kind, item), value in zip(members_of(source), record):
        member_path = member_start + name
        path = start + name
        if name not in targets:
            found.append((member_path, path, value))
            continue
        other = targets[name][1]
        if kind == "record":
            found += unmatched_values(item[2], other[2], value, member_path + ".", path + ".")
        elif kind == "choice":
            case, inner = value
            found += unmatched_values(cases_of(item)[case], cases_of(other)[case], inner,
                                      f"{member_path}.{case}.", path + ".value.")
        elif kind == "list":
            for index, inner in enumerate(value):
                found += unmatched_values(item[3], other[3], inner, member_path + "[].", f"{path}[{index}].")
    return found
