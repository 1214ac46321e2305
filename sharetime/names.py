"""Which texts may be names in a house, and whether a name is there."""

LONGEST = 8


def is_name(thing):
    """Tell whether this may be the name of a team or a hand."""
    if not isinstance(thing, str) or not 1 <= len(thing) <= LONGEST:
        return False
    # Not by isalpha and islower: to those, letters beyond a to z are letters too.
    return all("a" <= sign <= "z" for sign in thing)


def stands_in(thing, table):
    """Tell whether this is a text that the table has."""
    # Texts only, and asked first: Python cannot even look for a list in a table.
    return isinstance(thing, str) and thing in table
