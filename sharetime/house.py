"""A house: a tree of teams and hands, with a wheel in each team."""

from sharetime.errors import BadCount, BadName, NoName, NoTeam, NotEmpty, NotHand, Twice
from sharetime.names import is_name, stands_in
from sharetime.steps import is_whole
from sharetime.wheel import Wheel

TOP = ""
MOST_COMING = 999


class House:
    """Teams and hands below the top. All goes by loops, so a house may be as deep as it likes."""

    def __init__(self):
        # Which team each one stands in, by the names of all but the top.
        self._above = {}
        # The wheels of all teams, the top's with them.
        self._wheels = {TOP: Wheel()}

    def team(self, name, above, share):
        """Let a new team stand in the team above."""
        self._settle(name, above, share)
        self._wheels[name] = Wheel()

    def hand(self, name, above, share):
        """Let a new hand stand in the team above."""
        self._settle(name, above, share)

    def leave(self, name):
        """Let a hand go, or a team in which nobody stands."""
        self._need_name(name)
        if name not in self._wheels:
            # So that the teams around it rest as well if it was the last one ready.
            self.rest(name)
        elif self._wheels[name].names():
            raise NotEmpty("somebody stands in this team")
        else:
            del self._wheels[name]
        self._wheel_around(name).leave(name)
        del self._above[name]

    def reshare(self, name, share):
        """Change the share that a hand or a team has where it stands."""
        self._need_name(name)
        self._wheel_around(name).reshare(name, share)

    def wake(self, name):
        """Wake a hand, and each team that this makes ready; tell whether it changed something."""
        self._need_hand(name)
        if not self._wheel_around(name).wake(name):
            return False
        team = self._above[name]
        # Around a team that was ready already all are ready.
        while team != TOP and self._wheel_around(team).wake(team):
            team = self._above[team]
        return True

    def rest(self, name):
        """Let a hand rest, and each team in which it was the last; tell whether it changed something."""
        self._need_hand(name)
        if not self._wheel_around(name).rest(name):
            return False
        team = self._above[name]
        while team != TOP and self._wheels[team].whose() is None:
            self._wheel_around(team).rest(team)
            team = self._above[team]
        return True

    def deal(self):
        """Give one turn from the top down; tell the names that got it, none where nobody is ready."""
        names = []
        name = self._wheels[TOP].turn()
        while name is not None:
            names.append(name)
            # A team that got the turn is ready, so somebody in its wheel gets it in turn.
            name = self._wheels[name].turn() if name in self._wheels else None
        return names

    def coming(self, count):
        """Tell the next deals, as many as count tells, as if nothing else came between."""
        if not is_whole(count) or not 0 <= count <= MOST_COMING:
            raise BadCount(f"a count is a whole number from 0 to {MOST_COMING}")
        house = self._copied()
        return [house.deal() for _ in range(count)]

    def wheel_of(self, team):
        """Tell a copy of the wheel of a team, of the top's for the empty text."""
        self._need_team(team)
        return self._wheels[team].copied()

    def _settle(self, name, above, share):
        """Let a new one stand in the team above, or refuse and change nothing."""
        if not is_name(name):
            raise BadName("a name is a text of 1 to 8 signs from a to z")
        if name in self._above:
            raise Twice("this name stands in the house already")
        self._need_team(above)
        self._wheels[above].enter(name, share)
        self._above[name] = above

    def _need_team(self, team):
        """Refuse what is no team with NoTeam."""
        if not stands_in(team, self._wheels):
            raise NoTeam("there is no such team")

    def _need_name(self, name):
        """Refuse what is nobody's name with NoName; the top is no name."""
        if not stands_in(name, self._above):
            raise NoName("nobody of this name stands in the house")

    def _need_hand(self, name):
        """Refuse what is nobody's name with NoName, a team's with NotHand."""
        self._need_name(name)
        if name in self._wheels:
            raise NotHand("a team is not woken or rested by itself")

    def _wheel_around(self, name):
        """Tell the wheel in which this one is a sharer."""
        return self._wheels[self._above[name]]

    def _copied(self):
        """Tell another house like this one, which goes its own way."""
        other = House()
        other._above = dict(self._above)
        other._wheels = {team: wheel.copied() for team, wheel in self._wheels.items()}
        return other
