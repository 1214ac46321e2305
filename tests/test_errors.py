"""The refusals of sharetime.errors."""

import unittest

from sharetime.errors import (
    BadCount, BadName, BadShare, NoDeed, NoName, NotEmpty, NotHand, NoTeam,
    ShareError, Twice,
)

REFUSALS = [
    BadShare, BadName, Twice, NoTeam, NoName, NotHand, NotEmpty, BadCount, NoDeed,
]


class ErrorsTest(unittest.TestCase):
    def test_share_error_stands_straight_under_value_error(self):
        self.assertEqual(ShareError.__bases__, (ValueError,))

    def test_each_refusal_stands_straight_under_share_error(self):
        for refusal in REFUSALS:
            with self.subTest(refusal=refusal.__name__):
                self.assertEqual(refusal.__bases__, (ShareError,))

    def test_no_refusal_stands_under_another_one(self):
        for refusal in REFUSALS:
            for other in REFUSALS:
                with self.subTest(refusal=refusal.__name__, other=other.__name__):
                    self.assertEqual(issubclass(refusal, other), refusal is other)

    def test_the_nine_are_nine_classes_called_by_their_names(self):
        self.assertEqual(
            [refusal.__name__ for refusal in REFUSALS],
            ["BadShare", "BadName", "Twice", "NoTeam", "NoName", "NotHand",
             "NotEmpty", "BadCount", "NoDeed"],
        )

    def test_each_refusal_is_caught_as_any_refusal_and_as_value_error(self):
        for refusal in REFUSALS:
            for above in (ShareError, ValueError):
                with self.subTest(refusal=refusal.__name__, above=above.__name__):
                    with self.assertRaises(above):
                        raise refusal("why")


if __name__ == "__main__":
    unittest.main()
