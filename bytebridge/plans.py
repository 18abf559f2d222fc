"""Plans: bridges as flat tables, and smaller tables that do the same."""

from bytebridge.compiling import add_items, new_nodes, new_target_nodes
from bytebridge.folding import folded_steps, new_slot_numbers, settled_writing, with_slots


def compiled(bridge):
    """Return a plan with which a machine does what a converter of a bridge does."""
    slots = []
    nodes = new_nodes(bridge.source, bridge.convertible, slots)
    reading = []
    add_items(bridge.source, nodes, reading)
    target_nodes = new_target_nodes(bridge.source, nodes, bridge.target, slots)
    writing = []
    add_items(bridge.target, target_nodes, writing)
    return (tuple(slots), tuple(reading), tuple(writing))


def folded(plan):
    """Return a sound plan that does what a sound plan does, without what makes no difference."""
    slots, reading, writing = plan
    first = folded_steps(reading, slots)
    second = folded_steps(settled_writing(writing, slots), slots)
    numbers = new_slot_numbers(first + second)
    return (
        tuple([slots[slot] for slot in numbers]),
        tuple([with_slots(step, numbers) for step in first]),
        tuple([with_slots(step, numbers) for step in second]),
    )
