"""Notes: points 1, 16 and 17 of DOC.md."""

import unittest

from sharetime.errors import NoDeed, ShareError
from sharetime.notes import play, read, shown

WRITTEN = [
    (("team", "mill", "", 12), "team mill - 12"),
    (("team", "a", "abcdefgh", 1), "team a abcdefgh 1"),
    (("hand", "ann", "", 3), "hand ann - 3"),
    (("hand", "bob", "mill", 10), "hand bob mill 10"),
    (("wake", "ann"), "wake ann"),
    (("rest", "zzzzzzzz"), "rest zzzzzzzz"),
    (("share", "ann", 7), "share ann 7"),
    (("share", "mill", 11), "share mill 11"),
    (("leave", "z"), "leave z"),
    (("deal",), "deal"),
    # Words of deeds are good names too.
    (("team", "team", "deal", 2), "team team deal 2"),
    (("hand", "hand", "hand", 4), "hand hand hand 4"),
    (("wake", "wake"), "wake wake"),
    (("share", "share", 5), "share share 5"),
    (("leave", "deal"), "leave deal"),
]

BLANKS_AND_LINE_ENDS = [
    "", " ", "  ", "\n", " deal", "deal ", "deal\n", "\ndeal", "deal\r\n", "deal\r", "\tdeal", "deal\t",
    " wake ann", "wake ann ", "wake  ann", "wake\tann", "wake\nann", "wake ann\n", "wake ann\r",
    "wake\u00a0ann", "wake\u2003ann", "hand ann - 3 ", "hand ann - 3\n", "hand  ann - 3", "hand ann  - 3",
    "hand ann -  3", "hand ann -\t3", " hand ann - 3", "share ann 3\n", "share ann  3", "share ann 3 ",
]

NO_SHARES = [
    "0", "00", "13", "100", "03", "012", "010", "+3", "-3", "-0", "- 3", "3.0", "3.", "1e0", "1_0", "0x3",
    "three", "\u0663", "\uff13", "\u00b3", "\u0967", "\u2462", "ann", "-", "", "True", "None", "9" * 5000,
]

NO_NAMES = [
    "abcdefghi", "Ann", "anN", "ANN", "a1", "1", "3", "-", "--", "a-b", "-a", "", "\u00e4nn", "\u00df",
    "\u0430nn", "\uff41", "a\u0301", "a.", "a/b", "None,", "a" * 100000,
]

WRONG_WORDS = [
    "ann", "-", "3", "Deal", "DEAL", "deals", "dea", "deal.", "d", "(deal,)", "Hand ann - 3", "HAND ann - 3",
    "hands ann - 3", "enter ann - 3", "turn", "reshare ann 3", "sleep ann", "coming 3", "# deal", "\ufeffdeal",
]

LEFT_OUT_OR_TOO_MANY = [
    "team", "team mill", "team mill -", "team mill 3", "team - 3", "team mill - 3 3", "team mill - 3 deal",
    "hand", "hand ann", "hand ann -", "hand ann 3", "hand - 3", "hand ann - 3 x", "hand ann mill saw 3",
    "wake", "wake ann bob", "wake ann 3", "rest", "rest ann bob", "rest ann 3",
    "share", "share ann", "share 3", "share ann - 3", "share ann 3 3", "leave", "leave ann bob", "leave ann 3",
    "deal ann", "deal 3", "deal -", "deal deal", "deal 1",
]


class ShownTest(unittest.TestCase):
    def test_each_kind_is_written_and_read_back(self):
        self.assertEqual(len({deed[0] for deed, _ in WRITTEN}), 7)
        for deed, line in WRITTEN:
            with self.subTest(line=line):
                self.assertEqual(shown(deed), line)
                self.assertIs(type(shown(deed)), str)
                self.assertEqual(read(line), deed)
                self.assertIs(type(read(line)), tuple)
                self.assertEqual([type(part) for part in read(line)], [type(part) for part in deed])

    def test_each_share_by_its_figures(self):
        for share in range(1, 13):
            for deed in [("team", "mill", "", share), ("hand", "ann", "mill", share),
                         ("share", "ann", share)]:
                self.assertEqual(shown(deed).split(" ")[-1], str(share))
                self.assertEqual(read(shown(deed)), deed)

    def test_names_of_1_and_of_8_letters_and_of_each_letter(self):
        for name in [*"abcdefghijklmnopqrstuvwxyz", "abcdefgh", "stuvwxyz"]:
            for deed in [("team", name, name, 1), ("hand", name, "", 1), ("wake", name),
                         ("rest", name), ("share", name, 1), ("leave", name)]:
                self.assertEqual(read(shown(deed)), deed)


class ReadTest(unittest.TestCase):
    def check_no_deed(self, line):
        with self.subTest(line=line[:100]):
            with self.assertRaises(ValueError) as caught:
                read(line)
            self.assertIs(type(caught.exception), NoDeed)
            self.assertIsInstance(caught.exception, ShareError)

    def test_blanks_and_line_ends(self):
        for line in BLANKS_AND_LINE_ENDS:
            self.check_no_deed(line)

    def test_no_share(self):
        for word in NO_SHARES:
            for ahead in ["team mill -", "hand ann mill", "share ann"]:
                self.check_no_deed(f"{ahead} {word}")

    def test_no_name(self):
        for word in NO_NAMES:
            for line in [f"team {word} - 3", f"hand {word} mill 3", f"wake {word}", f"rest {word}",
                         f"share {word} 3", f"leave {word}"]:
                self.check_no_deed(line)

    def test_no_team_to_stand_in(self):
        for word in NO_NAMES:
            if word != "-":
                self.check_no_deed(f"team mill {word} 3")
                self.check_no_deed(f"hand ann {word} 3")

    def test_another_word_in_the_first_place(self):
        for line in WRONG_WORDS:
            self.check_no_deed(line)

    def test_words_left_out_or_too_many(self):
        for line in LEFT_OUT_OR_TOO_MANY:
            self.check_no_deed(line)

    def test_a_very_long_text(self):
        self.check_no_deed("deal " * 100000)
        self.check_no_deed("deal" * 100000)

    def test_each_text_that_is_read_is_what_its_deed_is_written_as(self):
        words = ["", "-", "ann", "Ann", "3", "0", "13", "deal", "wake", "share", "hand"]
        lines = list(words)
        for _ in range(3):
            lines = [f"{first} {line}" for first in words for line in lines] + words
            for line in lines:
                try:
                    deed = read(line)
                except NoDeed:
                    continue
                self.assertEqual(shown(deed), line)


class PlayTest(unittest.TestCase):
    def check_played(self, rows):
        """Each row is a text and what it is answered by."""
        lines = [line for line, _ in rows]
        kept = list(lines)
        answers = play(lines)
        self.assertEqual(list(zip(lines, answers)), rows)
        self.assertIs(type(answers), list)
        self.assertEqual(lines, kept)

    def test_an_empty_row(self):
        self.check_played([])

    def test_every_deed_done(self):
        self.check_played([
            ("deal", "nobody"),
            ("team mill - 12", "done"),
            ("hand ann mill 3", "done"),
            ("hand bob - 1", "done"),
            ("deal", "nobody"),
            ("wake ann", "yes"),
            ("wake ann", "no"),
            ("deal", "mill/ann"),
            ("wake bob", "yes"),
            ("deal", "bob"),
            ("rest bob", "yes"),
            ("rest bob", "no"),
            ("share mill 4", "done"),
            ("share ann 5", "done"),
            ("deal", "mill/ann"),
            ("leave ann", "done"),
            ("deal", "nobody"),
            ("leave mill", "done"),
            ("wake bob", "yes"),
            ("deal", "bob"),
        ])

    def test_a_deal_through_several_teams(self):
        self.check_played([
            ("team a - 1", "done"),
            ("team b a 2", "done"),
            ("team c b 3", "done"),
            ("hand d c 4", "done"),
            ("wake d", "yes"),
            ("deal", "a/b/c/d"),
        ])

    def test_every_refusal_and_the_row_goes_on(self):
        self.check_played([
            ("", "no deed"),
            ("Deal", "no deed"),
            ("hand ann - 13", "no deed"),
            ("hand Ann - 3", "no deed"),
            ("hand ann - 3", "done"),
            ("hand ann - 3", "twice"),
            ("team ann nobody 3", "twice"),
            ("team mill ann 3", "no team"),
            ("hand bob mill 3", "no team"),
            ("team mill mill 3", "no team"),
            ("team mill - 3", "done"),
            ("hand mill - 3", "twice"),
            ("wake bob", "no name"),
            ("rest bob", "no name"),
            ("share bob 3", "no name"),
            ("leave bob", "no name"),
            ("wake mill", "not a hand"),
            ("rest mill", "not a hand"),
            ("hand bob mill 3", "done"),
            ("leave mill", "not empty"),
            ("leave -", "no deed"),
            ("wake -", "no deed"),
            ("wake bob", "yes"),
            ("deal", "mill/bob"),
            ("leave mill", "not empty"),
            ("share bob 0", "no deed"),
            ("leave bob", "done"),
            ("leave mill", "done"),
            ("leave mill", "no name"),
        ])

    def test_a_changed_share_tells(self):
        deals = [("deal", "ann"), ("deal", "bob"), ("deal", "bob")]
        self.check_played([
            ("hand ann - 1", "done"), ("hand bob - 1", "done"), ("share bob 2", "done"),
            ("wake ann", "yes"), ("wake bob", "yes"), *deals, *deals,
        ])

    def test_each_play_begins_with_a_new_house(self):
        rows = [("deal", "nobody"), ("hand ann - 3", "done"), ("wake ann", "yes"), ("deal", "ann")]
        self.check_played(rows)
        self.check_played(rows)
        self.check_played([("wake ann", "no name")])

    def test_the_answers_are_the_askers_own(self):
        lines = ["hand ann - 3", "deal"]
        answers = play(lines)
        answers.clear()
        self.assertEqual(play(lines), ["done", "nobody"])
        self.assertEqual(lines, ["hand ann - 3", "deal"])

    def test_names_like_the_answers(self):
        self.check_played([
            ("hand nobody - 3", "done"), ("wake nobody", "yes"), ("deal", "nobody"),
            ("rest nobody", "yes"), ("deal", "nobody"),
        ])

    def test_a_long_row(self):
        lines = ["hand ann - 1", "hand bob - 2", "wake ann", "wake bob"] + ["deal"] * 3000
        answers = play(lines)
        self.assertEqual((answers.count("ann"), answers.count("bob")), (1000, 2000))


if __name__ == "__main__":
    unittest.main()
