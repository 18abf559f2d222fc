"""Parts of plans, folded: without steps and slots that make no difference."""

from bytebridge.steps import goal_of, is_possible, known_byte, only_code, slots_of


def settled_writing(steps, slots):
    """Return the list of the steps of writing, with a byte in place of each step whose byte is always the same."""
    found = []
    for step in steps:
        byte = None
        if step[0] in ("bits", "mark", "table"):
            byte = known_byte(step, [slots[slot] for slot in slots_of(step)])
        found.append(step if byte is None else ("byte", byte))
    return found


def folded_steps(steps, slots):
    """Return the list of the steps that can be reached and make a difference."""
    decided = [decided_step(step, slots) for step in steps]
    kept = [there and step is not None for step, there in zip(decided, reached(decided))]
    places = new_places(kept)
    return [with_goal(step, places) for step, stays in zip(decided, kept) if stays]


def decided_step(step, slots):
    """Return a step, or what can stand in its place if it always goes on in one way: a jump, or None for nothing."""
    if step[0] != "when":
        return step
    _, slot, number, goal = step
    if not is_possible(slots[slot], number):
        return None
    if only_code(slots[slot]) == number:
        return ("jump", goal)
    return step


def reached(steps):
    """Return a list that tells for each position and for the end whether it can be reached from the position 0."""
    found = [True] + [False] * len(steps)
    # All steps go forward, so what leads to a position precedes it.
    for place, step in enumerate(steps):
        if found[place]:
            goal = None if step is None else goal_of(step)
            if goal is not None:
                found[goal] = True
            if goal is None or step[0] == "when":
                found[place + 1] = True
    return found


def new_places(kept):
    """Return the list of the new positions of all steps, and of the end; each step counts that is kept."""
    found = [0]
    for stays in kept:
        found.append(found[-1] + 1 if stays else found[-1])
    return found


def with_goal(step, places):
    """Return a step that goes on at a new position."""
    if step[0] == "when":
        _, slot, number, goal = step
        return ("when", slot, number, places[goal])
    if step[0] == "jump":
        return ("jump", places[step[1]])
    return step


def new_slot_numbers(steps):
    """Return a dict of the new numbers of those slots that steps name, in the order of the old numbers."""
    named = {}
    for step in steps:
        for slot in slots_of(step):
            named[slot] = True
    return {slot: number for number, slot in enumerate(sorted(list(named)))}


def with_slots(step, numbers):
    """Return a step that names slots by their new numbers."""
    if step[0] == "bits":
        return ("bits", tuple([(numbers[slot], low, width, shift) for slot, low, width, shift in step[1]]))
    if slots_of(step):
        return (step[0], numbers[step[1]]) + step[2:]
    return step
