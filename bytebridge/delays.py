"""Delays: how long a sender must wait so that it never runs dry."""

from bytebridge.chains import best, chain, point_value
from bytebridge.converting import arrivals
from bytebridge.lateness import LateScope
from bytebridge.messages import write_message

# Greater than all numbers of bytes, so that with this weight only one of the two coordinates counts.
FAR = 1000000


def profile(bridge):
    """Return the profile of a bridge, a list of points."""
    return chain(list(late_records(bridge)))


def start_delay(bridge, *, input_time=1, output_time=1):
    """Return the least delay with which a sender does not run dry on any convertible message."""
    # The point (0, 0) has the value 0, and so it stands for messages on which no delay is needed.
    return best([(0, 0)] + profile(bridge), input_time, output_time)


def dry_at(bridge, message, *, delay, input_time=1, output_time=1):
    """Return the least offset at which a sender with a delay runs dry on a convertible message, or None."""
    for offset, needed in enumerate(arrivals(bridge, message)):
        if input_time * needed > delay + output_time * offset:
            return offset
    return None


def late_message(bridge, pair):
    """Return a message for which the byte at the offset of a pair of the profile is as late as the pair tells."""
    return write_message(bridge.source, late_records(bridge)[pair])


def late_records(bridge):
    """Return a dict of points, all points of the profile among them, each with a record that has it.

    The points are found by looking for greatest values. Between two points for
    which a third one has a greater value than both, there can be more of them.
    """
    scope = LateScope(bridge.source, bridge.target, bridge.convertible)
    found = {}
    first = latest_point(scope, 1, FAR, found)
    last = latest_point(scope, FAR, 1, found)
    gaps = [(first, last)]
    while gaps:
        low, high = gaps.pop()
        if low != high:
            # With these weights both points have the same value.
            a = high[1] - low[1]
            c = high[0] - low[0]
            middle = latest_point(scope, a, c, found)
            if point_value(middle, a, c) > point_value(low, a, c):
                gaps.append((low, middle))
                gaps.append((middle, high))
    return found


def latest_point(scope, a, c, found):
    """Return the point of the latest byte for two weights, and keep a record that has it; None if there is none."""
    triple = scope.latest(a, c)
    if triple is None:
        return None
    needed, offset, record = triple
    found[(needed, offset)] = record
    return (needed, offset)
