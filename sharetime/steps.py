"""Shares, and how far a clock goes on for a turn."""

from sharetime.errors import BadShare

# The least number that each whole number from 1 to MOST divides, so that no step is ever rounded.
ROUND = 27720
MOST = 12


def is_whole(thing):
    """Tell whether this is a whole number."""
    # To Python True and False are of int as well, so they have to be taken out by name.
    return isinstance(thing, int) and not isinstance(thing, bool)


def step(share):
    """Tell how far a clock goes on for a turn of one with this share."""
    if not is_whole(share) or not 1 <= share <= MOST:
        # The message does not show what came: Python refuses to write out a very long number.
        raise BadShare(f"a share is a whole number from 1 to {MOST}")
    return ROUND // share
