"""What is refused, one class for each reason."""


class ShareError(ValueError):
    """Any refusal."""


class BadShare(ShareError):
    """What was handed in as a share is none."""


class BadName(ShareError):
    """What was handed in as a name for a new one is none."""


class Twice(ShareError):
    """The name is there already."""


class NoTeam(ShareError):
    """There is no such team."""


class NoName(ShareError):
    """There is nobody of that name."""


class NotHand(ShareError):
    """The name is a team's, and only a hand will do."""


class NotEmpty(ShareError):
    """Somebody stands in the team still."""


class BadCount(ShareError):
    """What was handed in as a count is none."""


class NoDeed(ShareError):
    """The text tells no deed."""
