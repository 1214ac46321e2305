"""Shares and steps: points 1 and 2 of DOC.md."""

import unittest

from sharetime.errors import BadShare, ShareError
from sharetime.steps import MOST, ROUND, is_whole, step

STEPS = {
    1: 27720, 2: 13860, 3: 9240, 4: 6930, 5: 5544, 6: 4620,
    7: 3960, 8: 3465, 9: 3080, 10: 2772, 11: 2520, 12: 2310,
}

# Beyond 4300 digits Python refuses to write a number out, with a ValueError of its own.
NUMBERS_THAT_ARE_NO_SHARE = [
    0, -1, -3, -12, 13, 14, 27720, 10 ** 40, -10 ** 40, 10 ** 5000, -10 ** 5000,
]

NO_WHOLE_NUMBERS = [
    True, False, None, "", "3", "12", "three", b"3", [], [3], (), (3,), {}, {3: 3},
    set(), {3}, 3.0, 2.5, float("nan"), 3 + 0j, int, object(), range(3), len,
]


class StepTest(unittest.TestCase):
    def test_round_and_most(self):
        self.assertIs(type(ROUND), int)
        self.assertEqual(ROUND, 27720)
        self.assertIs(type(MOST), int)
        self.assertEqual(MOST, 12)

    def test_each_step_that_many_times_over_is_the_round(self):
        for share in range(1, 13):
            with self.subTest(share=share):
                self.assertIs(type(step(share)), int)
                self.assertEqual(step(share) * share, 27720)

    def test_each_step_by_its_figures(self):
        self.assertEqual({share: step(share) for share in range(1, 13)}, STEPS)

    def test_asking_again_tells_the_same(self):
        self.assertEqual([step(5), step(12), step(5)], [5544, 2310, 5544])

    def test_the_greater_the_share_the_less_the_step(self):
        for share in range(1, 12):
            with self.subTest(share=share):
                self.assertGreater(step(share), step(share + 1))


class RefusalTest(unittest.TestCase):
    def check_refused(self, thing):
        with self.assertRaises(ValueError) as caught:
            step(thing)
        self.assertIs(type(caught.exception), BadShare)
        self.assertIsInstance(caught.exception, ShareError)

    def test_a_number_that_is_no_share(self):
        for at, thing in enumerate(NUMBERS_THAT_ARE_NO_SHARE):
            with self.subTest(at=at):
                self.check_refused(thing)

    def test_what_is_no_whole_number(self):
        for thing in NO_WHOLE_NUMBERS:
            with self.subTest(thing=thing):
                self.check_refused(thing)

    def test_what_is_handed_in_is_not_changed(self):
        row, table = [3], {3: [3]}
        self.check_refused(row)
        self.check_refused(table)
        self.assertEqual((row, table), ([3], {3: [3]}))

    def test_a_refusal_changes_no_later_answer(self):
        self.check_refused(13)
        self.assertEqual(step(12), 2310)


class WholeNumberTest(unittest.TestCase):
    def test_numbers_of_int_are_whole_numbers(self):
        for at, thing in enumerate([0, 1, -1, 12, *NUMBERS_THAT_ARE_NO_SHARE]):
            with self.subTest(at=at):
                self.assertIs(is_whole(thing), True)

    def test_true_and_false_and_other_things_are_none(self):
        for thing in NO_WHOLE_NUMBERS:
            with self.subTest(thing=thing):
                self.assertIs(is_whole(thing), False)


if __name__ == "__main__":
    unittest.main()
