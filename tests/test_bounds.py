"""The bounds over long mixed runs: points 8 and 9 of DOC.md, in a wheel and in a house."""

import random
import unittest

from sharetime.house import House
from sharetime.notes import play, shown
from sharetime.steps import step
from sharetime.wheel import Wheel

NAMES = ["", "ann", "bob", "cid", "dan", "eve", "fay", "gus"]


class Watch:
    """What one wheel told at each moment, and how many turns each of its sharers had by then."""

    def __init__(self):
        self.moments = []
        self.turns = {}
        self.lives = {}

    def entered(self, name):
        # One who leaves and enters again is a new one.
        self.turns[name] = 0
        self.lives[name] = self.lives.get(name, 0) + 1

    def had_turn(self, name):
        self.turns[name] += 1

    def look(self, wheel):
        """Keep this moment."""
        self.moments.append((wheel.past, {
            name: (self.turns[name], wheel.clock_of(name),
                   (self.lives[name], wheel.share_of(name), wheel.is_ready(name)))
            for name in wheel.names()
        }))


def check_each_moment(test, watch):
    """Point 8, and that the past never falls."""
    last = 0
    for past, sharers in watch.moments:
        test.assertGreaterEqual(past, last)
        last = past
        for _, clock, (_, share, ready) in sharers.values():
            test.assertGreaterEqual(clock, 0)
            test.assertLessEqual(clock, past + step(share))
            if ready:
                test.assertGreaterEqual(clock, past)


def check_each_stretch(test, watch):
    """Point 9, over every stretch from one moment to a later one; tells the shares it met."""
    met = set()
    for at, (past, sharers) in enumerate(watch.moments):
        along = {name: kept for name, (_, _, kept) in sharers.items() if kept[2]}
        for later_past, later in watch.moments[at + 1:]:
            along = {name: kept for name, kept in along.items()
                     if name in later and later[name][2] == kept}
            if not along:
                break
            had = [(kept[1], later[name][0] - sharers[name][0]) for name, kept in along.items()]
            met.update(share for share, _ in had)
            check_stretch(test, later_past - past, had)
    return met


def check_stretch(test, past_gone_on, had):
    """Point 9 over one stretch, of those who were ready all along, by their shares and turns."""
    for share, turns in had:
        test.assertLessEqual(step(share) * (turns - 1), past_gone_on)
        test.assertGreaterEqual(step(share) * (turns + 1), past_gone_on)
        for other_share, other_turns in had:
            test.assertLessEqual((turns - 1) * other_share, (other_turns + 1) * share)


def run_of_a_wheel(chance, length, calm):
    """A mixed run of one wheel; the greater calm is, the more of it are turns."""
    wheel, watch = Wheel(), Watch()
    for _ in range(length):
        name, share = chance.choice(NAMES), chance.randint(1, 12)
        deed = chance.choice(["enter", "wake", "wake", "rest", "share", "leave"])
        if chance.randrange(calm):
            got = wheel.turn()
            if got is not None:
                watch.had_turn(got)
        elif name not in wheel.names():
            wheel.enter(name, share)
            watch.entered(name)
            if chance.randrange(2):
                # A moment of its own, for the one who rests.
                watch.look(wheel)
                wheel.wake(name)
        elif deed == "wake":
            wheel.wake(name)
        elif deed == "rest":
            wheel.rest(name)
        elif deed == "share":
            wheel.reshare(name, share)
        elif deed == "leave":
            wheel.leave(name)
        watch.look(wheel)
    return watch


class WheelBoundsTest(unittest.TestCase):
    def test_mixed_runs(self):
        met = set()
        for seed in range(60):
            with self.subTest(seed=seed):
                watch = run_of_a_wheel(random.Random(seed), 150, calm=2 + seed % 8)
                check_each_moment(self, watch)
                met |= check_each_stretch(self, watch)
        self.assertEqual(met, set(range(1, 13)))

    def test_long_runs_at_every_moment(self):
        for seed in range(5):
            with self.subTest(seed=seed):
                watch = run_of_a_wheel(random.Random(1000 + seed), 4000, calm=4)
                check_each_moment(self, watch)

    def test_all_shares_at_once(self):
        wheel, watch = Wheel(), Watch()
        for share in range(1, 13):
            wheel.enter(str(share), share)
            watch.entered(str(share))
            wheel.wake(str(share))
        for _ in range(2 * 78):
            watch.had_turn(wheel.turn())
            watch.look(wheel)
        check_each_moment(self, watch)
        self.assertEqual(check_each_stretch(self, watch), set(range(1, 13)))
        # Two rounds of 27720 on the clock, and in each one as many turns as the share tells.
        self.assertEqual(watch.turns, {str(share): 2 * share for share in range(1, 13)})

    def test_each_change_of_a_share_at_each_distance_from_the_past(self):
        for old in range(1, 13):
            for new in range(1, 13):
                wheel = Wheel()
                for name, share in [("ann", old), ("bob", 11)]:
                    wheel.enter(name, share)
                    wheel.wake(name)
                for _ in range(15):
                    other = wheel.copied()
                    other.reshare("ann", new)
                    self.assertGreaterEqual(other.clock_of("ann"), other.past)
                    self.assertLessEqual(other.clock_of("ann"), other.past + step(new))
                    wheel.turn()


class HouseRun:
    """A mixed run of a house, each of whose wheels is watched."""

    def __init__(self, chance):
        self.chance = chance
        self.house = House()
        self.watches = {"": Watch()}
        self.ended = []
        self.above = {}

    def do_something(self):
        name = self.chance.choice("abcdefghij")
        share = self.chance.randint(1, 12)
        if self.chance.randrange(4):
            self.deal()
        elif name not in self.above:
            self.enter(name, share)
        elif self.chance.randrange(4) == 0:
            self.house.reshare(name, share)
        elif name in self.watches:
            if not self.house.wheel_of(name).names():
                self.leave(name)
        elif self.chance.randrange(8) == 0:
            self.leave(name)
        elif self.chance.randrange(3):
            self.house.wake(name)
        else:
            self.house.rest(name)
        for team, watch in self.watches.items():
            watch.look(self.house.wheel_of(team))

    def enter(self, name, share):
        above = self.chance.choice(list(self.watches))
        if name in "abcd":
            self.house.team(name, above, share)
            self.watches[name] = Watch()
        else:
            self.house.hand(name, above, share)
        self.above[name] = above
        self.watches[above].entered(name)

    def leave(self, name):
        self.house.leave(name)
        del self.above[name]
        if name in self.watches:
            # A team that comes again has a new wheel.
            self.ended.append(self.watches.pop(name))

    def deal(self):
        team = ""
        for name in self.house.deal():
            self.watches[team].had_turn(name)
            team = name


class HouseBoundsTest(unittest.TestCase):
    def test_mixed_runs_of_a_house_in_each_of_its_wheels(self):
        met = set()
        for seed in range(40):
            with self.subTest(seed=seed):
                run = HouseRun(random.Random(seed))
                for _ in range(150):
                    run.do_something()
                for watch in [*run.watches.values(), *run.ended]:
                    check_each_moment(self, watch)
                    met |= check_each_stretch(self, watch)
        self.assertEqual(met, set(range(1, 13)))

    def test_shares_of_teams_and_hands_over_a_round(self):
        deeds = [("team", "mill", "", 1), ("team", "farm", "", 2),
                 ("hand", "ann", "mill", 3), ("hand", "bob", "mill", 1),
                 ("hand", "cid", "farm", 1), ("hand", "dan", "farm", 1),
                 *[("wake", name) for name in ["ann", "bob", "cid", "dan"]]]
        lines = [shown(deed) for deed in deeds] + ["deal"] * 24
        answers = play(lines)[len(deeds):]
        self.assertEqual(
            {path: answers.count(path) for path in answers},
            {"mill/ann": 6, "mill/bob": 2, "farm/cid": 8, "farm/dan": 8},
        )


if __name__ == "__main__":
    unittest.main()
