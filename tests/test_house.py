"""A house: points 1 and 10 to 15 of DOC.md."""

import random
import unittest

from sharetime.errors import (
    BadCount, BadName, BadShare, NoName, NotEmpty, NotHand, NoTeam, ShareError, Twice,
)
from sharetime.house import House
from sharetime.wheel import Wheel

NO_TEXTS = [0, 1, -1, None, True, False, ["a"], [], ("a",), {}, {"a": 1}, {"a"}, b"a", 3.0, object()]

NO_NAMES = [
    "", " ", "-", "a b", "a-b", "a1", "1", " a", "a ", "a\n", "abcdefghi", "a" * 1000000,
    "Ann", "anN", "ANN", "\u00e4", "\u00df", "\u0430", "\uff41", "a\u0301", "\u00aa", "`", "{", "@", "[",
    *NO_TEXTS,
]

NO_SHARES = [0, -1, 13, 10 ** 5000, True, False, None, "3", "", [3], {}, 3.0]

NO_COUNTS = [-1, 1000, 10 ** 5000, -10 ** 5000, True, False, None, "", "3", [], [3], (), {}, 3.0]


def told_of_wheel(wheel):
    return (
        wheel.past,
        [(name, wheel.share_of(name), wheel.clock_of(name), wheel.is_ready(name))
         for name in wheel.names()],
    )


def teams_of(house):
    """The top and all teams below it, found from the top down."""
    teams = [""]
    for team in teams:
        for name in house.wheel_of(team).names():
            try:
                house.wheel_of(name)
            except NoTeam:
                continue
            teams.append(name)
    return teams


def told(house):
    """All that a house tells of itself."""
    wheels = {team: told_of_wheel(house.wheel_of(team)) for team in teams_of(house)}
    return wheels, house.coming(5)


def ready_in(house, team):
    wheel = house.wheel_of(team)
    return [name for name in wheel.names() if wheel.is_ready(name)]


def small_house():
    """The top with hand ann and team mill; mill with hand bob and team saw; saw with hand cid."""
    house = House()
    house.hand("ann", "", 3)
    house.team("mill", "", 6)
    house.hand("bob", "mill", 2)
    house.team("saw", "mill", 4)
    house.hand("cid", "saw", 1)
    return house


def name_of(number):
    """A name of its own for each number."""
    signs = ""
    while number or not signs:
        signs += chr(ord("a") + number % 26)
        number //= 26
    return signs


class HouseTest(unittest.TestCase):
    def check_refused(self, refusal, house, call, *handed):
        """The call is refused with just this class, and changes nothing."""
        before = told(house)
        with self.assertRaises(ValueError) as caught:
            call(*handed)
        self.assertIs(type(caught.exception), refusal)
        self.assertIsInstance(caught.exception, ShareError)
        self.assertEqual(told(house), before)

    def check_readiness(self, house):
        """Each team is ready just if somebody in its wheel is."""
        for team in teams_of(house):
            wheel = house.wheel_of(team)
            for name in wheel.names():
                if name in teams_of(house):
                    self.assertIs(wheel.is_ready(name), bool(ready_in(house, name)))


class TreeTest(HouseTest):
    def test_a_new_house_has_a_top_with_nobody(self):
        self.assertEqual(told(House()), ({"": (0, [])}, [[]] * 5))

    def test_teams_and_hands_stand_in_their_teams_with_their_shares(self):
        house = House()
        self.assertIsNone(house.hand("ann", "", 3))
        self.assertIsNone(house.team("mill", "", 6))
        self.assertIsNone(house.hand("bob", "mill", 2))
        self.assertEqual(told(house)[0], {
            "": (0, [("ann", 3, 0, False), ("mill", 6, 0, False)]),
            "mill": (0, [("bob", 2, 0, False)]),
        })

    def test_names_of_1_to_8_letters_from_a_to_z(self):
        for name in ["a", "z", "abcdefgh", "stuvwxyz", "zzzzzzzz", "team", "hand", "deal"]:
            for kind in ["team", "hand"]:
                house = House()
                getattr(house, kind)(name, "", 3)
                self.assertEqual(house.wheel_of("").names(), [name])

    def test_each_letter_may_be_a_name(self):
        house = House()
        for letter in "abcdefghijklmnopqrstuvwxyz":
            house.hand(letter, "", 1)
        self.assertEqual(len(house.wheel_of("").names()), 26)

    def test_each_share_may_be_one(self):
        house = House()
        for share in range(1, 13):
            house.team(name_of(share), "", share)
            house.hand("h" + name_of(share), name_of(share), share)
        wheel = house.wheel_of("")
        self.assertEqual([wheel.share_of(name) for name in wheel.names()], list(range(1, 13)))

    def test_shares_are_changed_of_hands_and_teams_ready_or_not(self):
        house = small_house()
        self.assertIsNone(house.reshare("ann", 5))
        house.reshare("mill", 7)
        house.wake("cid")
        house.reshare("cid", 8)
        house.reshare("saw", 9)
        self.assertEqual(told(house)[0], {
            "": (0, [("ann", 5, 0, False), ("mill", 7, 0, True)]),
            "mill": (0, [("bob", 2, 0, False), ("saw", 9, 0, True)]),
            "saw": (0, [("cid", 8, 0, True)]),
        })

    def test_a_changed_share_takes_the_clock_along(self):
        house = House()
        house.hand("ann", "", 3)
        house.wake("ann")
        house.deal()
        house.reshare("ann", 12)
        self.assertEqual(house.wheel_of("").clock_of("ann"), 2310)


class ReadinessTest(HouseTest):
    def test_a_team_wakes_with_the_first_and_rests_with_the_last(self):
        house = House()
        house.team("mill", "", 6)
        house.hand("ann", "mill", 3)
        house.hand("bob", "mill", 3)
        ready = []
        for call, name in [(house.wake, "ann"), (house.wake, "bob"), (house.rest, "ann"),
                           (house.wake, "ann"), (house.rest, "bob"), (house.rest, "ann")]:
            self.assertIs(call(name), True)
            ready.append(house.wheel_of("").is_ready("mill"))
        self.assertEqual(ready, [True, True, True, True, True, False])

    def test_waking_and_resting_tell_whether_they_changed_something(self):
        house = small_house()
        for name in ["ann", "cid", "bob"]:
            calls = [house.rest, house.wake, house.wake, house.rest, house.rest]
            answers = [call(name) for call in calls]
            self.assertEqual(answers, [False, True, False, True, False])
            for answer in answers:
                self.assertIs(type(answer), bool)

    def test_what_waking_and_resting_do_not_change_stays(self):
        house = small_house()
        house.wake("cid")
        house.deal()
        before = told(house)
        self.assertIs(house.wake("cid"), False)
        self.assertIs(house.rest("ann"), False)
        self.assertEqual(told(house), before)

    def test_all_the_way_up(self):
        house = small_house()
        house.wake("cid")
        self.assertEqual([ready_in(house, team) for team in ["", "mill", "saw"]],
                         [["mill"], ["saw"], ["cid"]])
        house.wake("bob")
        self.assertEqual(ready_in(house, "mill"), ["bob", "saw"])
        house.rest("cid")
        self.assertEqual([ready_in(house, team) for team in ["", "mill", "saw"]],
                         [["mill"], ["bob"], []])
        house.rest("bob")
        self.assertEqual([ready_in(house, team) for team in ["", "mill", "saw"]], [[], [], []])

    def test_a_ready_hand_that_leaves_rests_first(self):
        house = small_house()
        house.wake("cid")
        self.assertIsNone(house.leave("cid"))
        self.assertEqual([ready_in(house, team) for team in ["", "mill", "saw"]], [[], [], []])
        self.assertEqual(house.deal(), [])
        house.wake("bob")
        self.assertEqual(house.deal(), ["mill", "bob"])

    def test_a_ready_hand_that_leaves_others_ready(self):
        house = small_house()
        house.wake("cid")
        house.wake("bob")
        house.leave("bob")
        self.assertEqual([ready_in(house, team) for team in ["", "mill", "saw"]],
                         [["mill"], ["saw"], ["cid"]])

    def test_a_resting_hand_that_leaves_changes_nobody(self):
        house = small_house()
        house.wake("cid")
        house.leave("bob")
        self.assertEqual(house.deal(), ["mill", "saw", "cid"])

    def test_a_team_that_wakes_gets_the_past_and_one_that_rests_keeps_its_clock(self):
        house = House()
        house.hand("ann", "", 3)
        house.team("mill", "", 3)
        house.hand("bob", "mill", 1)
        house.wake("ann")
        for _ in range(4):
            house.deal()
        house.wake("bob")
        self.assertEqual(house.wheel_of("").clock_of("mill"), 3 * 9240)
        self.assertEqual(house.deal(), ["mill", "bob"])
        house.rest("bob")
        self.assertEqual(house.wheel_of("").clock_of("mill"), 4 * 9240)
        self.assertEqual(house.wheel_of("mill").clock_of("bob"), 27720)

    def test_a_team_with_nobody_in_it_is_not_ready(self):
        house = House()
        house.team("mill", "", 3)
        house.team("saw", "mill", 3)
        self.assertEqual([ready_in(house, team) for team in ["", "mill"]], [[], []])
        house.hand("ann", "saw", 3)
        self.assertEqual([ready_in(house, team) for team in ["", "mill"]], [[], []])

    def test_teams_thousands_deep(self):
        house = House()
        above = ""
        teams = [name_of(number) for number in range(3000)]
        for team in teams:
            house.team(team, above, 2)
            above = team
        house.hand("zzzzzzzz", above, 5)
        self.assertEqual(house.deal(), [])
        self.assertIs(house.wake("zzzzzzzz"), True)
        path = [*teams, "zzzzzzzz"]
        self.assertEqual(house.coming(2), [path, path])
        self.assertEqual(house.deal(), path)
        house.leave("zzzzzzzz")
        self.assertEqual([house.deal(), house.wheel_of("").is_ready(teams[0])], [[], False])
        for team in reversed(teams):
            house.leave(team)
        self.assertEqual(house.wheel_of("").names(), [])


class DealTest(HouseTest):
    def test_names_from_the_top_down_the_last_one_a_hands(self):
        house = small_house()
        house.wake("cid")
        self.assertEqual(house.deal(), ["mill", "saw", "cid"])
        house.rest("cid")
        house.wake("ann")
        self.assertEqual(house.deal(), ["ann"])

    def test_turns_go_by_shares_in_each_wheel(self):
        house = small_house()
        for name in ["ann", "bob", "cid"]:
            house.wake(name)
        deals = [house.deal() for _ in range(9)]
        # Of mill's share of 6 to ann's 3, and in mill of saw's 4 to bob's 2.
        self.assertEqual(deals, [
            ["ann"], ["mill", "bob"], ["mill", "saw", "cid"],
            ["ann"], ["mill", "saw", "cid"], ["mill", "bob"],
            ["ann"], ["mill", "saw", "cid"], ["mill", "saw", "cid"],
        ])

    def test_an_empty_list_where_nobody_is_ready_and_nothing_changes(self):
        house = small_house()
        house.wake("ann")
        house.wake("cid")
        for _ in range(4):
            house.deal()
        house.rest("ann")
        house.rest("cid")
        before = told(house)
        self.assertEqual(house.deal(), [])
        self.assertEqual(told(house), before)
        self.assertEqual(House().deal(), [])

    def test_one_turn_of_each_wheel_on_the_way_and_of_no_other(self):
        house = small_house()
        house.team("farm", "", 5)
        house.hand("dan", "farm", 2)
        house.hand("eve", "saw", 7)
        for name in ["ann", "bob", "cid", "dan", "eve"]:
            house.wake(name)
        for _ in range(100):
            wheels = {team: house.wheel_of(team) for team in teams_of(house)}
            names = house.deal()
            self.assertNotIn(names[-1], wheels)
            for team, name in zip(["", *names], names):
                self.assertEqual(wheels[team].turn(), name)
            for team, wheel in wheels.items():
                self.assertEqual(told_of_wheel(house.wheel_of(team)), told_of_wheel(wheel))

    def test_the_list_told_is_the_askers_own(self):
        house = small_house()
        house.wake("cid")
        names = house.deal()
        names.clear()
        self.assertEqual(house.deal(), ["mill", "saw", "cid"])
        again = house.deal()
        house.leave("cid")
        house.leave("saw")
        self.assertEqual(again, ["mill", "saw", "cid"])


class MixedRunTest(HouseTest):
    def do_something(self, chance, house):
        """Do one call with names and shares that often will not do."""
        name, above = chance.choice("abcdefgh"), chance.choice(["", *"abcdefgh"])
        share = chance.randint(0, 12)
        calls = [(house.team, (name, above, share)), (house.hand, (name, above, share)),
                 (house.wake, (name,)), (house.wake, (name,)), (house.wake, (name,)),
                 (house.rest, (name,)), (house.leave, (name,)), (house.reshare, (name, share))]
        call, handed = chance.choice(calls)
        before = told(house)
        try:
            call(*handed)
        except ShareError:
            self.assertEqual(told(house), before)

    def test_readiness_deals_and_what_is_coming_over_mixed_runs(self):
        for seed in range(30):
            chance, house = random.Random(seed), House()
            with self.subTest(seed=seed):
                for _ in range(100):
                    self.do_something(chance, house)
                    self.check_readiness(house)
                    count = chance.randrange(4)
                    coming = house.coming(count)
                    self.assertEqual([house.deal() for _ in range(count)], coming)


class LeavingTest(HouseTest):
    def test_a_team_in_which_nobody_stands_may_leave(self):
        house = small_house()
        house.leave("cid")
        self.assertIsNone(house.leave("saw"))
        self.assertEqual(house.wheel_of("mill").names(), ["bob"])
        self.check_refused(NoTeam, house, house.wheel_of, "saw")
        house.leave("bob")
        house.leave("mill")
        self.assertEqual(told(house)[0], {"": (0, [("ann", 3, 0, False)])})

    def test_a_team_in_which_somebody_stands_may_not(self):
        house = small_house()
        self.check_refused(NotEmpty, house, house.leave, "mill")
        self.check_refused(NotEmpty, house, house.leave, "saw")
        house.wake("cid")
        self.check_refused(NotEmpty, house, house.leave, "saw")
        house.leave("cid")
        # Nobody but a team stands in mill now, and that is somebody.
        house.leave("bob")
        self.check_refused(NotEmpty, house, house.leave, "mill")

    def test_a_name_that_left_is_free_as_either_kind_anywhere(self):
        for kind in ["team", "hand"]:
            for above in ["", "mill", "saw"]:
                house = small_house()
                house.leave("bob")
                getattr(house, kind)("bob", above, 9)
                self.assertEqual(house.wheel_of(above).names()[-1], "bob")
                self.assertEqual(house.wheel_of(above).share_of("bob"), 9)

    def test_a_teams_name_that_left_is_free_for_a_hand(self):
        house = small_house()
        house.leave("cid")
        house.leave("saw")
        house.hand("saw", "", 2)
        self.assertIs(house.wake("saw"), True)
        self.assertEqual(house.deal(), ["saw"])
        self.check_refused(NoTeam, house, house.wheel_of, "saw")
        self.check_refused(NoTeam, house, house.hand, "cid", "saw", 1)

    def test_a_hand_that_left_and_came_again_is_a_new_one(self):
        house = small_house()
        house.wake("ann")
        house.deal()
        house.leave("ann")
        house.hand("ann", "", 4)
        self.assertEqual(told_of_wheel(house.wheel_of("")),
                         (0, [("mill", 6, 0, False), ("ann", 4, 0, False)]))

    def test_a_team_that_left_and_came_again_has_a_new_wheel(self):
        house = small_house()
        house.wake("cid")
        for _ in range(3):
            house.deal()
        self.assertEqual(house.wheel_of("saw").past, 2 * 27720)
        house.leave("cid")
        house.leave("saw")
        house.team("saw", "", 4)
        self.assertEqual(told_of_wheel(house.wheel_of("saw")), (0, []))
        house.hand("cid", "saw", 1)
        house.wake("cid")
        self.assertEqual(house.wheel_of("saw").clock_of("cid"), 0)


class ComingTest(HouseTest):
    def ready_house(self):
        house = small_house()
        for name in ["ann", "bob", "cid"]:
            house.wake(name)
        return house

    def test_what_is_coming_is_what_the_deals_then_are(self):
        for count in [0, 1, 2, 57, 999]:
            house = self.ready_house()
            coming = house.coming(count)
            self.assertEqual(len(coming), count)
            self.assertEqual(coming, [house.deal() for _ in range(count)])

    def test_after_some_deals_too(self):
        house = self.ready_house()
        for at in range(30):
            if at == 10:
                house.rest("cid")
            if at == 20:
                house.wake("cid")
                house.reshare("mill", 11)
            coming = house.coming(20)
            other = [house.deal()]
            self.assertEqual(coming[:1], other)
            self.assertEqual(house.coming(19), coming[1:])

    def test_telling_it_changes_nothing_and_twice_tells_the_same(self):
        house = self.ready_house()
        before = {team: told_of_wheel(house.wheel_of(team)) for team in teams_of(house)}
        coming = house.coming(40)
        self.assertEqual(house.coming(40), coming)
        self.assertEqual(
            {team: told_of_wheel(house.wheel_of(team)) for team in teams_of(house)}, before)

    def test_nobody_ready_as_many_empty_lists(self):
        for house in [House(), small_house()]:
            for count in [0, 1, 3, 999]:
                self.assertEqual(house.coming(count), [[]] * count)

    def test_each_list_is_the_askers_own(self):
        for house in [House(), self.ready_house()]:
            coming = house.coming(4)
            kept = [list(names) for names in coming]
            coming[0].append("x")
            self.assertEqual(coming[1:], kept[1:])
            self.assertEqual(house.coming(4), kept)
            house.deal()
            self.assertEqual(coming[1:], kept[1:])

    def test_no_count_is_refused(self):
        house = self.ready_house()
        for at, count in enumerate(NO_COUNTS):
            with self.subTest(at=at):
                self.check_refused(BadCount, house, house.coming, count)


class WheelOfTest(HouseTest):
    def test_it_is_a_copy(self):
        house = small_house()
        house.wake("ann")
        house.wake("cid")
        house.deal()
        for team in ["", "mill", "saw"]:
            before = told(house)
            wheel = house.wheel_of(team)
            self.assertIs(type(wheel), Wheel)
            kept = told_of_wheel(wheel)
            wheel.turn()
            wheel.enter("", 3)
            for name in wheel.names():
                wheel.wake(name)
                wheel.rest(name)
                wheel.reshare(name, 12)
                wheel.leave(name)
            wheel.past = 10 ** 6
            self.assertEqual(told(house), before)
            self.assertEqual(told_of_wheel(house.wheel_of(team)), kept)

    def test_nothing_done_later_changes_it(self):
        house = small_house()
        house.wake("cid")
        wheels = [house.wheel_of(team) for team in ["", "mill", "saw"]]
        kept = [told_of_wheel(wheel) for wheel in wheels]
        house.deal()
        house.wake("bob")
        house.reshare("saw", 12)
        house.hand("dan", "", 1)
        house.leave("cid")
        house.leave("saw")
        self.assertEqual([told_of_wheel(wheel) for wheel in wheels], kept)

    def test_what_is_no_team_is_refused(self):
        house = small_house()
        for thing in ["ann", "cid", "nobody", "-", "Mill", " ", *NO_TEXTS]:
            with self.subTest(thing=thing):
                self.check_refused(NoTeam, house, house.wheel_of, thing)


class RefusalTest(HouseTest):
    def test_no_name_for_a_new_one(self):
        house = small_house()
        for call in [house.team, house.hand]:
            for at, name in enumerate(NO_NAMES):
                with self.subTest(call=call.__name__, at=at):
                    self.check_refused(BadName, house, call, name, "", 3)

    def test_a_name_that_stands_in_the_house(self):
        house = small_house()
        for call in [house.team, house.hand]:
            for name in ["ann", "mill", "bob", "saw", "cid"]:
                for above in ["", "mill", "saw"]:
                    self.check_refused(Twice, house, call, name, above, 3)

    def test_no_team_to_stand_in(self):
        house = small_house()
        for call in [house.team, house.hand]:
            # A hand's name, the new one's own, one that is nobody's, and what is none at all.
            for above in ["ann", "bob", "dan", "nobody", "-", "Mill", " ", *NO_TEXTS]:
                with self.subTest(call=call.__name__, above=above):
                    self.check_refused(NoTeam, house, call, "dan", above, 3)

    def test_no_share_of_a_new_one(self):
        house = small_house()
        for call in [house.team, house.hand]:
            for above in ["", "mill", "saw"]:
                for share in NO_SHARES:
                    self.check_refused(BadShare, house, call, "dan", above, share)

    def test_who_was_refused_is_not_there(self):
        house = small_house()
        for call in [house.team, house.hand]:
            self.check_refused(BadShare, house, call, "dan", "", 13)
            self.check_refused(NoName, house, house.leave, "dan")
            self.check_refused(NoTeam, house, house.wheel_of, "dan")
        house.hand("dan", "", 12)
        self.assertIs(house.wake("dan"), True)

    def test_the_order_for_a_new_one(self):
        house = small_house()
        for call in [house.team, house.hand]:
            for name in ["", "Ann", "abcdefghi", None, ["a"]]:
                self.check_refused(BadName, house, call, name, "nobody", 13)
                self.check_refused(BadName, house, call, name, "", 13)
            for name in ["ann", "mill"]:
                self.check_refused(Twice, house, call, name, "nobody", 13)
                self.check_refused(Twice, house, call, name, ["a"], 3)
                self.check_refused(Twice, house, call, name, "", 13)
                self.check_refused(Twice, house, call, name, name, 3)
            self.check_refused(NoTeam, house, call, "dan", "nobody", 13)
            self.check_refused(NoTeam, house, call, "dan", "ann", True)

    def test_nobody_of_that_name(self):
        house = small_house()
        # The empty text is the top where a team is asked for, and is no name.
        for name in ["", "dan", "-", "Ann", "ann ", *NO_TEXTS]:
            for call in [house.wake, house.rest, house.leave]:
                with self.subTest(call=call.__name__, name=name):
                    self.check_refused(NoName, house, call, name)
            self.check_refused(NoName, house, house.reshare, name, 3)

    def test_a_team_is_not_woken_or_rested_by_itself(self):
        house = small_house()
        for name in ["mill", "saw"]:
            self.check_refused(NotHand, house, house.wake, name)
            self.check_refused(NotHand, house, house.rest, name)
        house.wake("cid")
        for name in ["mill", "saw"]:
            self.check_refused(NotHand, house, house.wake, name)
            self.check_refused(NotHand, house, house.rest, name)

    def test_a_change_of_share(self):
        house = small_house()
        house.wake("cid")
        house.deal()
        for share in NO_SHARES:
            for name in ["", "dan", None, ["a"]]:
                self.check_refused(NoName, house, house.reshare, name, share)
            for name in ["ann", "mill", "saw", "cid"]:
                self.check_refused(BadShare, house, house.reshare, name, share)

    def test_what_is_handed_in_is_not_changed(self):
        house = small_house()
        row, table = ["a"], {"a": ["a"]}
        for thing in [row, table]:
            for call in [house.wake, house.rest, house.leave]:
                self.check_refused(NoName, house, call, thing)
            self.check_refused(BadName, house, house.hand, thing, "", 3)
            self.check_refused(NoTeam, house, house.team, "dan", thing, 3)
            self.check_refused(BadShare, house, house.team, "dan", "", thing)
            self.check_refused(BadCount, house, house.coming, thing)
        self.assertEqual((row, table), (["a"], {"a": ["a"]}))


if __name__ == "__main__":
    unittest.main()
