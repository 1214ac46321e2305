"""Notes: deeds written as texts, read back, and played in a house."""

from sharetime.errors import NoDeed, NoName, NoTeam, NotEmpty, NotHand, Twice
from sharetime.house import TOP, House
from sharetime.names import is_name
from sharetime.steps import MOST

TOP_SIGN = "-"

# What stands behind the first word of each deed.
PARTS = {
    "team": ("name", "above", "share"),
    "hand": ("name", "above", "share"),
    "wake": ("name",),
    "rest": ("name",),
    "share": ("name", "share"),
    "leave": ("name",),
    "deal": (),
}


def shown(deed):
    """Write a deed of good names and shares as a text."""
    # Nothing in such a deed but the top is the empty text.
    return " ".join([TOP_SIGN if part == TOP else str(part) for part in deed])


def read(line):
    """Read a text to the deed that is written so, or refuse with NoDeed."""
    words = line.split(" ")
    parts = PARTS.get(words[0])
    if parts is None or len(words) != len(parts) + 1:
        raise NoDeed("no deed has these words")
    rest = [read_part(part, word) for part, word in zip(parts, words[1:])]
    return (words[0], *rest)


def read_part(part, word):
    """Read one word behind the first to what stands in the deed for it."""
    if part == "share":
        return read_share(word)
    if part == "above" and word == TOP_SIGN:
        return TOP
    if not is_name(word):
        raise NoDeed("this word is no name")
    return word


def read_share(word):
    """Read the figures of a share."""
    # Not by int, which also reads signs, noughts ahead and figures of other scripts.
    for share in range(1, MOST + 1):
        if word == str(share):
            return share
    raise NoDeed("this word is no share")


def play(lines):
    """Play a row of texts in a new house; tell the answer to each."""
    house = House()
    return [answer(house, line) for line in lines]


def answer(house, line):
    """Play one text in the house, and tell the answer, also where it is refused."""
    try:
        return do(house, read(line))
    except NoDeed:
        return "no deed"
    except Twice:
        return "twice"
    except NoTeam:
        return "no team"
    except NoName:
        return "no name"
    except NotHand:
        return "not a hand"
    except NotEmpty:
        return "not empty"


def do(house, deed):
    """Do a deed in the house, and tell the answer."""
    match deed:
        case ("deal",):
            return "/".join(house.deal()) or "nobody"
        case ("wake", name):
            return "yes" if house.wake(name) else "no"
        case ("rest", name):
            return "yes" if house.rest(name) else "no"
        case ("team", name, above, share):
            house.team(name, above, share)
        case ("hand", name, above, share):
            house.hand(name, above, share)
        case ("share", name, share):
            house.reshare(name, share)
        case ("leave", name):
            house.leave(name)
    return "done"
