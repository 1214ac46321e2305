"""A wheel: turns go to whoever is ready and has the least on its clock."""

from sharetime.errors import NoName, Twice
from sharetime.names import stands_in
from sharetime.steps import step


class Sharer:
    """One sharer of a wheel."""

    def __init__(self, share):
        self.share = share
        self.clock = 0
        self.ready = False

    def copied(self):
        """Tell another sharer like this one."""
        other = Sharer(self.share)
        other.clock = self.clock
        other.ready = self.ready
        return other


class Wheel:
    """Sharers by their names, and the past: the clock ahead of the last turn of the one who had it."""

    def __init__(self):
        self.past = 0
        # In the order in which they entered, which decides between equal clocks.
        self._sharers = {}

    def enter(self, name, share):
        """Let a new one enter, who rests; refuse with Twice, then BadShare."""
        if name in self._sharers:
            raise Twice("this name is in the wheel already")
        # Asked for nothing but its refusal of what is no share.
        step(share)
        self._sharers[name] = Sharer(share)

    def leave(self, name):
        """Let this one go, with its clock."""
        self._sharer(name)
        del self._sharers[name]

    def reshare(self, name, share):
        """Change a share, and with it what the clock tells beyond the past."""
        sharer = self._sharer(name)
        new = step(share)
        beyond = sharer.clock - self.past
        if beyond > 0:
            sharer.clock = self.past + beyond * new // step(sharer.share)
        sharer.share = share

    def wake(self, name):
        """Make this one ready; tell whether that changed something."""
        sharer = self._sharer(name)
        if sharer.ready:
            return False
        sharer.ready = True
        # Else it would make up for the turns that it missed while it rested.
        sharer.clock = max(sharer.clock, self.past)
        return True

    def rest(self, name):
        """Let this one rest; tell whether that changed something."""
        sharer = self._sharer(name)
        changed = sharer.ready
        sharer.ready = False
        return changed

    def turn(self):
        """Give a turn; tell the name that got it, or None where nobody is ready."""
        name = self.whose()
        if name is not None:
            sharer = self._sharers[name]
            self.past = sharer.clock
            sharer.clock += step(sharer.share)
        return name

    def whose(self):
        """Tell the name that would get the turn, or None where nobody is ready."""
        # Compared with None, for the empty text is a name.
        first = None
        least = 0
        for name, sharer in self._sharers.items():
            if sharer.ready and (first is None or sharer.clock < least):
                first = name
                least = sharer.clock
        return first

    def names(self):
        """Tell all names, as they entered."""
        return list(self._sharers)

    def clock_of(self, name):
        """Tell what the clock of this one tells."""
        return self._sharer(name).clock

    def share_of(self, name):
        """Tell the share of this one."""
        return self._sharer(name).share

    def is_ready(self, name):
        """Tell whether this one is ready."""
        return self._sharer(name).ready

    def copied(self):
        """Tell another wheel like this one, which goes its own way."""
        other = Wheel()
        other.past = self.past
        other._sharers = {name: sharer.copied() for name, sharer in self._sharers.items()}
        return other

    def _sharer(self, name):
        """Tell the sharer of this name, or refuse with NoName."""
        if not stands_in(name, self._sharers):
            raise NoName("nobody of this name is in the wheel")
        return self._sharers[name]
