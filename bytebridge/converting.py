"""Converting messages while they are received."""

from bytebridge.errors import UnexpectedEnd
from bytebridge.reading import possible
from bytebridge.writing import determined


def sent_after(bridge, data):
    """Return the list of the bytes that are sent after the bytes received so far."""
    pattern, _ = possible(bridge.source, data, start=bridge.convertible)
    return determined(bridge.target, bridge.transferred(pattern))


def convert(bridge, data):
    """Return the list of the bytes of the conversion of a convertible message."""
    pattern, complete = possible(bridge.source, data, start=bridge.convertible)
    if not complete:
        raise UnexpectedEnd()
    return determined(bridge.target, bridge.transferred(pattern))


def arrivals(bridge, message):
    """Return the list of the numbers of bytes of a message after which the bytes of its conversion are sent."""
    run = Converter(bridge)
    found = [0] * len(run.take([]))
    for place, byte in enumerate(message):
        found.extend([place + 1] * len(run.take([byte])))
    if not run.done:
        raise UnexpectedEnd()
    return found


class Converter:
    """Converts one message whose bytes arrive in pieces, and sends its conversion as early as possible."""

    def __init__(self, bridge):
        self._bridge = bridge
        self._received = []
        self._sent = []
        self._pattern, self.done = possible(bridge.source, [], start=bridge.convertible)

    @property
    def received(self):
        """The list of all bytes received so far."""
        return list(self._received)

    @property
    def sent(self):
        """The list of all bytes returned so far."""
        return list(self._sent)

    def take(self, data):
        """Receive further bytes and return the list of the bytes that are sent now."""
        received = self._received + data
        # What was possible before is a start pattern for all bytes, and a smaller one than at the beginning.
        pattern, complete = possible(self._bridge.source, received, start=self._pattern)
        data_sent = determined(self._bridge.target, self._bridge.transferred(pattern))
        found = data_sent[len(self._sent):]
        self._received = received
        self._sent = data_sent
        self._pattern = pattern
        self.done = complete
        return found


def stream(bridge, chunks):
    """Yield what a new converter returns for no bytes and then for each chunk, one list each."""
    run = Converter(bridge)
    yield run.take([])
    for chunk in chunks:
        yield run.take(chunk)
