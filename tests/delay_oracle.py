"""What the document says about delays, from all convertible messages one by one: points 164 and 200 to 202."""

from chain_oracle import slow_chain


def slow_arrivals(lengths, message, converted):
    """The numbers r(m, j) of a message; lengths tells how many bytes are sent after the first bytes of messages."""
    found = []
    for place in range(len(converted)):
        many = 0
        while lengths[tuple(message[:many])] <= place:
            many += 1
        found.append(many)
    return found


def all_arrivals(pairs, table):
    """A list of pairs: each convertible message and its numbers r(m, j)."""
    lengths = {data: len(sent) for data, sent in table.items()}
    return [(message, slow_arrivals(lengths, message, converted)) for message, converted in pairs]


def slow_profile(arrivals):
    return slow_chain([(many, place) for _, found in arrivals for place, many in enumerate(found) if many >= 1])


def slow_dry_at(found, delay, a, c):
    """The least offset at which a sender runs dry on a message with these numbers r(m, j)."""
    for place, many in enumerate(found):
        if a * many > delay + c * place:
            return place
    return None


def slow_start_delay(arrivals, a, c):
    """The least delay, tried out from 0 on."""
    delay = 0
    for _, found in arrivals:
        while slow_dry_at(found, delay, a, c) is not None:
            delay += 1
    return delay
