"""A wheel: points 1 and 3 to 7 of DOC.md."""

import unittest

from sharetime.errors import BadShare, NoName, ShareError, Twice
from sharetime.wheel import Wheel

ODD_NAMES = [
    "", " ", "-", "ann", "Ann", "a b", "None", "0", "a\nb", "\u00e4\u4e16", "x" * 100000,
]

NO_SHARES = [0, -1, 13, 10 ** 5000, True, False, None, "3", "", [3], (3,), {}, 3.0]


def told(wheel):
    """All that a wheel tells of itself."""
    return (
        wheel.past,
        wheel.whose(),
        [(name, wheel.share_of(name), wheel.clock_of(name), wheel.is_ready(name))
         for name in wheel.names()],
    )


def wheel_of_ready(*sharers):
    """A wheel with these names and shares, all woken."""
    wheel = Wheel()
    for name, share in sharers:
        wheel.enter(name, share)
        wheel.wake(name)
    return wheel


class WheelTest(unittest.TestCase):
    def check_refused(self, refusal, wheel, call, *handed):
        """The call is refused with just this class, and changes nothing."""
        before = told(wheel)
        with self.assertRaises(ShareError) as caught:
            call(*handed)
        self.assertIs(type(caught.exception), refusal)
        self.assertEqual(told(wheel), before)


class EnteringTest(WheelTest):
    def test_a_new_wheel_has_its_past_at_0_and_nobody(self):
        wheel = Wheel()
        self.assertIs(type(wheel.past), int)
        self.assertEqual(told(wheel), (0, None, []))

    def test_who_enters_rests_with_0_on_the_clock(self):
        wheel = Wheel()
        self.assertIsNone(wheel.enter("ann", 3))
        self.assertEqual(wheel.names(), ["ann"])
        self.assertEqual(wheel.share_of("ann"), 3)
        self.assertEqual(wheel.clock_of("ann"), 0)
        self.assertIs(wheel.is_ready("ann"), False)

    def test_who_enters_late_rests_with_0_on_the_clock_too(self):
        wheel = wheel_of_ready(("ann", 1))
        for _ in range(3):
            wheel.turn()
        wheel.enter("bob", 2)
        self.assertEqual((wheel.past, wheel.clock_of("bob")), (2 * 27720, 0))
        self.assertIs(wheel.is_ready("bob"), False)

    def test_each_share_from_1_to_12_may_enter(self):
        wheel = Wheel()
        for share in range(1, 13):
            wheel.enter(str(share), share)
        self.assertEqual([wheel.share_of(name) for name in wheel.names()], list(range(1, 13)))

    def test_who_enters_stands_behind_all_others(self):
        wheel = Wheel()
        for name in ["zoe", "ann", "moe", "bob"]:
            wheel.enter(name, 5)
        self.assertEqual(wheel.names(), ["zoe", "ann", "moe", "bob"])

    def test_any_text_may_be_a_name(self):
        wheel = Wheel()
        for name in ODD_NAMES:
            wheel.enter(name, 4)
            self.assertIs(wheel.wake(name), True)
        self.assertEqual(wheel.names(), ODD_NAMES)
        self.assertEqual([wheel.turn() for _ in ODD_NAMES], ODD_NAMES)
        self.assertEqual([wheel.clock_of(name) for name in ODD_NAMES], [6930] * len(ODD_NAMES))
        for name in ODD_NAMES:
            wheel.reshare(name, 5)
            self.assertEqual(wheel.share_of(name), 5)
            self.assertIs(wheel.rest(name), True)
            wheel.leave(name)
        self.assertEqual(wheel.names(), [])

    def test_a_name_that_is_there_is_refused(self):
        wheel = wheel_of_ready(("ann", 3), ("", 4))
        self.check_refused(Twice, wheel, wheel.enter, "ann", 3)
        self.check_refused(Twice, wheel, wheel.enter, "", 5)

    def test_twice_is_ahead_of_the_share(self):
        wheel = wheel_of_ready(("ann", 3))
        for share in NO_SHARES:
            self.check_refused(Twice, wheel, wheel.enter, "ann", share)

    def test_no_share_is_refused(self):
        wheel = wheel_of_ready(("ann", 3))
        for at, share in enumerate(NO_SHARES):
            with self.subTest(at=at):
                self.check_refused(BadShare, wheel, wheel.enter, "bob", share)

    def test_who_was_refused_may_enter(self):
        wheel = Wheel()
        self.check_refused(BadShare, wheel, wheel.enter, "bob", 13)
        wheel.enter("bob", 12)
        self.assertEqual(wheel.share_of("bob"), 12)


class LeavingTest(WheelTest):
    def test_who_leaves_is_gone(self):
        wheel = wheel_of_ready(("ann", 3), ("bob", 4))
        self.assertIsNone(wheel.leave("ann"))
        self.assertEqual(wheel.names(), ["bob"])
        self.assertEqual([wheel.turn(), wheel.turn()], ["bob", "bob"])

    def test_who_leaves_and_enters_again_is_a_new_one_behind_all_others(self):
        wheel = wheel_of_ready(("ann", 3), ("bob", 3), ("cid", 3))
        for _ in range(5):
            wheel.turn()
        wheel.leave("ann")
        wheel.enter("ann", 7)
        self.assertEqual(wheel.names(), ["bob", "cid", "ann"])
        self.assertEqual((wheel.share_of("ann"), wheel.clock_of("ann")), (7, 0))
        self.assertIs(wheel.is_ready("ann"), False)
        self.assertEqual(wheel.turn(), "cid")

    def test_the_past_stays_when_somebody_leaves(self):
        wheel = wheel_of_ready(("ann", 1))
        wheel.turn()
        wheel.turn()
        wheel.leave("ann")
        self.assertEqual(told(wheel), (27720, None, []))

    def test_every_call_but_enter_refuses_who_is_not_there(self):
        wheel = wheel_of_ready(("ann", 3), ("bob", 5))
        wheel.turn()
        wheel.leave("bob")
        calls = [wheel.leave, wheel.wake, wheel.rest, wheel.clock_of, wheel.share_of,
                 wheel.is_ready]
        for name in ["bob", "", "Ann", "ann ", "nobody"]:
            for call in calls:
                with self.subTest(name=name, call=call.__name__):
                    self.check_refused(NoName, wheel, call, name)
            self.check_refused(NoName, wheel, wheel.reshare, name, 3)

    def test_what_is_no_text_is_nobody(self):
        wheel = wheel_of_ready(("ann", 3), ("", 1))
        for thing in [None, 0, True, ["ann"], ("ann",), {}, b"ann"]:
            for call in [wheel.leave, wheel.wake, wheel.rest, wheel.clock_of,
                         wheel.share_of, wheel.is_ready]:
                with self.subTest(thing=thing, call=call.__name__):
                    self.check_refused(NoName, wheel, call, thing)
            self.check_refused(NoName, wheel, wheel.reshare, thing, 3)


class WakingTest(WheelTest):
    def test_waking_and_resting_tell_whether_they_changed_something(self):
        wheel = Wheel()
        wheel.enter("ann", 3)
        calls = [wheel.rest, wheel.wake, wheel.wake, wheel.rest, wheel.rest, wheel.wake]
        answers = [call("ann") for call in calls]
        self.assertEqual(answers, [False, True, False, True, False, True])
        for answer in answers:
            self.assertIs(type(answer), bool)

    def test_who_wakes_is_ready_and_who_rests_is_not(self):
        wheel = Wheel()
        wheel.enter("ann", 3)
        wheel.wake("ann")
        self.assertIs(wheel.is_ready("ann"), True)
        wheel.rest("ann")
        self.assertIs(wheel.is_ready("ann"), False)

    def test_who_told_less_than_the_past_gets_the_past_on_its_clock(self):
        wheel = wheel_of_ready(("ann", 2))
        wheel.enter("bob", 3)
        for _ in range(4):
            wheel.turn()
        self.assertEqual(wheel.past, 3 * 13860)
        self.assertIs(wheel.wake("bob"), True)
        self.assertEqual(wheel.clock_of("bob"), 3 * 13860)
        self.assertEqual(wheel.past, 3 * 13860)

    def test_who_told_no_less_than_the_past_keeps_what_it_told(self):
        wheel = wheel_of_ready(("ann", 2), ("bob", 3))
        self.assertEqual([wheel.turn(), wheel.turn()], ["ann", "bob"])
        self.assertEqual((wheel.past, wheel.clock_of("bob")), (0, 9240))
        wheel.rest("bob")
        self.assertIs(wheel.wake("bob"), True)
        self.assertEqual(wheel.clock_of("bob"), 9240)

    def test_who_told_just_the_past_keeps_it(self):
        wheel = wheel_of_ready(("ann", 3), ("bob", 3))
        for _ in range(3):
            wheel.turn()
        wheel.rest("bob")
        self.assertEqual((wheel.past, wheel.clock_of("bob")), (9240, 9240))
        wheel.wake("bob")
        self.assertEqual(wheel.clock_of("bob"), 9240)

    def test_who_is_ready_is_not_changed_by_waking(self):
        wheel = wheel_of_ready(("ann", 1), ("bob", 12))
        for _ in range(9):
            wheel.turn()
            before = told(wheel)
            self.assertIs(wheel.wake("ann"), False)
            self.assertIs(wheel.wake("bob"), False)
            self.assertEqual(told(wheel), before)

    def test_who_rests_is_not_changed_by_resting(self):
        wheel = wheel_of_ready(("ann", 1), ("bob", 12))
        wheel.turn()
        wheel.rest("ann")
        before = told(wheel)
        self.assertIs(wheel.rest("ann"), False)
        self.assertEqual(told(wheel), before)

    def test_resting_changes_no_clock_and_not_the_past(self):
        wheel = wheel_of_ready(("ann", 5), ("bob", 7))
        for _ in range(5):
            wheel.turn()
        past = wheel.past
        clocks = [wheel.clock_of("ann"), wheel.clock_of("bob")]
        wheel.rest("ann")
        wheel.rest("bob")
        self.assertEqual([wheel.clock_of("ann"), wheel.clock_of("bob")], clocks)
        self.assertEqual(wheel.past, past)

    def test_who_rests_gets_no_turn(self):
        wheel = wheel_of_ready(("ann", 1), ("bob", 12))
        wheel.rest("bob")
        self.assertEqual([wheel.turn() for _ in range(4)], ["ann"] * 4)

    def test_who_rested_long_makes_up_for_nothing(self):
        wheel = wheel_of_ready(("ann", 4), ("bob", 4))
        wheel.rest("bob")
        for _ in range(100):
            wheel.turn()
        wheel.wake("bob")
        self.assertEqual([wheel.turn() for _ in range(5)], ["bob", "ann", "bob", "ann", "bob"])


class TurnTest(WheelTest):
    def test_the_least_clock_gets_the_turn(self):
        wheel = wheel_of_ready(("ann", 1), ("bob", 2), ("cid", 3))
        self.assertEqual(
            [wheel.turn() for _ in range(9)],
            ["ann", "bob", "cid", "cid", "bob", "cid", "ann", "bob", "cid"],
        )

    def test_of_equal_clocks_the_one_who_entered_first(self):
        wheel = Wheel()
        for name in ["zoe", "ann", "moe"]:
            wheel.enter(name, 6)
        # The order of waking is another one, and is none that counts.
        for name in ["ann", "moe", "zoe"]:
            wheel.wake(name)
        self.assertEqual([wheel.turn() for _ in range(6)], ["zoe", "ann", "moe"] * 2)

    def test_of_equal_clocks_after_one_left_and_entered_again(self):
        wheel = wheel_of_ready(("zoe", 6), ("ann", 6), ("moe", 6))
        wheel.leave("zoe")
        wheel.enter("zoe", 6)
        wheel.wake("zoe")
        self.assertEqual([wheel.turn() for _ in range(6)], ["ann", "moe", "zoe"] * 2)

    def test_a_changed_share_and_a_rest_keep_the_place(self):
        wheel = wheel_of_ready(("zoe", 6), ("ann", 6))
        wheel.rest("zoe")
        wheel.reshare("zoe", 3)
        wheel.wake("zoe")
        self.assertEqual(wheel.names(), ["zoe", "ann"])
        self.assertEqual(wheel.turn(), "zoe")

    def test_the_past_and_the_clock_behind_a_turn(self):
        wheel = wheel_of_ready(("ann", 2), ("bob", 5))
        steps = {"ann": 13860, "bob": 5544}
        for _ in range(50):
            name = wheel.whose()
            clocks = {one: wheel.clock_of(one) for one in steps}
            self.assertEqual(wheel.turn(), name)
            self.assertEqual(wheel.past, clocks[name])
            clocks[name] += steps[name]
            self.assertEqual({one: wheel.clock_of(one) for one in steps}, clocks)

    def test_where_nobody_is_ready_nobody_gets_the_turn(self):
        wheel = Wheel()
        self.assertIsNone(wheel.turn())
        self.assertEqual(told(wheel), (0, None, []))
        wheel = wheel_of_ready(("ann", 2), ("bob", 5))
        for _ in range(3):
            wheel.turn()
        wheel.rest("ann")
        wheel.rest("bob")
        before = told(wheel)
        self.assertIsNone(wheel.turn())
        self.assertIsNone(wheel.whose())
        self.assertEqual(told(wheel), before)

    def test_whose_tells_the_same_name_and_changes_nothing(self):
        wheel = wheel_of_ready(("ann", 2), ("bob", 5), ("", 11))
        for _ in range(30):
            before = told(wheel)
            name = wheel.whose()
            self.assertEqual(wheel.whose(), name)
            self.assertEqual(told(wheel), before)
            self.assertEqual(wheel.turn(), name)

    def test_the_empty_text_gets_its_turn_and_is_told_apart_from_none(self):
        wheel = wheel_of_ready(("ann", 2), ("", 2))
        self.assertEqual([wheel.turn() for _ in range(4)], ["ann", "", "ann", ""])
        wheel.rest("ann")
        self.assertEqual(wheel.whose(), "")
        self.assertIsNotNone(wheel.turn())
        self.assertEqual(wheel.clock_of(""), 3 * 13860)
        wheel.rest("")
        self.assertIsNone(wheel.whose())
        self.assertIsNone(wheel.turn())

    def test_the_empty_text_entered_first_wins_of_equal_ones(self):
        wheel = wheel_of_ready(("", 2), ("ann", 2))
        self.assertEqual([wheel.turn() for _ in range(4)], ["", "ann", "", "ann"])

    def test_one_alone_gets_every_turn(self):
        wheel = wheel_of_ready(("ann", 12))
        self.assertEqual([wheel.turn() for _ in range(20)], ["ann"] * 20)
        self.assertEqual((wheel.past, wheel.clock_of("ann")), (19 * 2310, 20 * 2310))


class ReshareTest(WheelTest):
    def ahead(self):
        """A wheel in which ann's clock is beyond the past by 9240, her step."""
        wheel = wheel_of_ready(("ann", 3), ("bob", 3))
        self.assertEqual([wheel.turn() for _ in range(3)], ["ann", "bob", "ann"])
        self.assertEqual((wheel.past, wheel.clock_of("ann")), (9240, 18480))
        return wheel

    def test_beyond_the_past_the_clock_goes_along_while_ready(self):
        wheel = self.ahead()
        self.assertIsNone(wheel.reshare("ann", 12))
        self.assertEqual(wheel.share_of("ann"), 12)
        self.assertEqual(wheel.clock_of("ann"), 9240 + 2310)
        self.assertEqual((wheel.past, wheel.is_ready("ann")), (9240, True))
        wheel.reshare("ann", 1)
        self.assertEqual(wheel.clock_of("ann"), 9240 + 27720)

    def test_beyond_the_past_the_clock_goes_along_while_resting(self):
        wheel = self.ahead()
        wheel.rest("ann")
        wheel.reshare("ann", 6)
        self.assertEqual(wheel.clock_of("ann"), 9240 + 4620)
        self.assertIs(wheel.is_ready("ann"), False)

    def test_partly_beyond_the_past(self):
        wheel = wheel_of_ready(("ann", 4), ("bob", 7))
        self.assertEqual([wheel.turn() for _ in range(3)], ["ann", "bob", "bob"])
        self.assertEqual((wheel.past, wheel.clock_of("ann")), (3960, 6930))
        wheel.reshare("ann", 8)
        self.assertEqual(wheel.clock_of("ann"), 3960 + 2970 // 2)

    def test_at_the_past_the_clock_stays(self):
        wheel = wheel_of_ready(("ann", 3), ("bob", 3))
        for _ in range(3):
            wheel.turn()
        for share in [1, 12, 5]:
            wheel.reshare("bob", share)
            self.assertEqual((wheel.clock_of("bob"), wheel.share_of("bob")), (9240, share))

    def test_below_the_past_the_clock_stays(self):
        wheel = wheel_of_ready(("ann", 3), ("bob", 3))
        self.assertEqual([wheel.turn(), wheel.turn()], ["ann", "bob"])
        wheel.rest("bob")
        for _ in range(5):
            wheel.turn()
        self.assertEqual((wheel.past, wheel.clock_of("bob")), (5 * 9240, 9240))
        for share in [1, 12, 7]:
            wheel.reshare("bob", share)
            self.assertEqual((wheel.clock_of("bob"), wheel.share_of("bob")), (9240, share))

    def test_it_is_rounded_down(self):
        wheel = wheel_of_ready(("ann", 11), ("bob", 12))
        self.assertEqual([wheel.turn() for _ in range(3)], ["ann", "bob", "bob"])
        self.assertEqual((wheel.past, wheel.clock_of("ann")), (2310, 2520))
        wheel.reshare("ann", 12)
        # 210 times 2310 divided by 2520 is 192 and a half.
        self.assertEqual(wheel.clock_of("ann"), 2310 + 192)
        wheel.reshare("ann", 11)
        # 192 times 2520 divided by 2310 is 209 and 5 of 11.
        self.assertEqual(wheel.clock_of("ann"), 2310 + 209)

    def test_the_same_share_again_changes_nothing(self):
        wheel = self.ahead()
        before = told(wheel)
        wheel.reshare("ann", 3)
        wheel.reshare("bob", 3)
        self.assertEqual(told(wheel), before)

    def test_nobody_else_is_changed(self):
        wheel = self.ahead()
        wheel.reshare("ann", 5)
        self.assertEqual((wheel.clock_of("bob"), wheel.share_of("bob")), (9240, 3))

    def test_the_next_turn_goes_by_the_new_step(self):
        wheel = wheel_of_ready(("ann", 1))
        wheel.reshare("ann", 10)
        wheel.turn()
        self.assertEqual(wheel.clock_of("ann"), 2772)

    def test_no_name_is_ahead_of_the_share(self):
        wheel = self.ahead()
        for share in [3, *NO_SHARES]:
            self.check_refused(NoName, wheel, wheel.reshare, "cid", share)

    def test_no_share_is_refused(self):
        wheel = self.ahead()
        for at, share in enumerate(NO_SHARES):
            with self.subTest(at=at):
                self.check_refused(BadShare, wheel, wheel.reshare, "ann", share)


class OwnTest(WheelTest):
    def test_the_names_told_are_the_askers_own(self):
        wheel = wheel_of_ready(("ann", 3), ("bob", 4))
        names = wheel.names()
        wheel.enter("cid", 5)
        wheel.leave("ann")
        self.assertEqual(names, ["ann", "bob"])
        names.clear()
        self.assertEqual(wheel.names(), ["bob", "cid"])

    def test_a_copy_tells_the_same(self):
        wheel = wheel_of_ready(("ann", 3), ("", 4), ("cid", 12))
        for _ in range(7):
            wheel.turn()
        wheel.rest("cid")
        other = wheel.copied()
        self.assertIs(type(other), Wheel)
        self.assertIsNot(other, wheel)
        self.assertEqual(told(other), told(wheel))
        self.assertEqual([other.turn() for _ in range(9)], [wheel.turn() for _ in range(9)])
        self.assertEqual(told(other), told(wheel))

    def change(self, wheel):
        """Do of everything something."""
        wheel.turn()
        wheel.reshare("ann", 9)
        wheel.rest("ann")
        wheel.wake("cid")
        wheel.leave("bob")
        wheel.enter("dan", 1)

    def test_what_is_done_to_either_changes_nothing_of_the_other(self):
        wheel = wheel_of_ready(("ann", 3), ("bob", 4))
        wheel.enter("cid", 2)
        wheel.turn()
        before = told(wheel)
        other = wheel.copied()
        self.change(other)
        self.assertEqual(told(wheel), before)
        self.assertNotEqual(told(other), before)
        other = wheel.copied()
        self.change(wheel)
        self.assertEqual(told(other), before)

    def test_a_copy_of_an_empty_wheel(self):
        wheel = Wheel()
        other = wheel.copied()
        other.enter("ann", 3)
        self.assertEqual(told(wheel), (0, None, []))

    def test_two_wheels_have_nothing_in_common(self):
        one, two = Wheel(), Wheel()
        one.enter("ann", 3)
        self.assertEqual(two.names(), [])
        two.enter("ann", 4)
        self.assertEqual(one.share_of("ann"), 3)


if __name__ == "__main__":
    unittest.main()
