"""The refusals of the program, a class for each kind."""


class YardError(ValueError):
    """Any refusal."""


class NoYard(YardError):
    """A yard can't have so many cells: the number is no size."""


class NoWish(YardError):
    """No piece can be wished for by this number."""


class NoRoom(YardError):
    """The yard has no room for what is wished."""


class NotOut(YardError):
    """No piece that is out begins at this place."""


class NoNote(YardError):
    """The text shows no yard."""
