"""A yard: a row of cells that are given out in pieces and come back."""

from buddyyard.errors import NoRoom, NotOut, NoYard
from buddyyard.pool import Pool
from buddyyard.sizes import is_size, size_for, twin_of


def upper_halves(at, size, least):
    """The upper halves that come off the piece (at, size), halved till it has the least size."""
    halves = []
    while size > least:
        size //= 2
        halves.append((at + size, size))
    return halves


class Yard:
    """A yard of so many cells; NoYard where the number is no size."""

    def __init__(self, cells):
        # No refusal writes out a number: Python fails to do that for a very long one.
        if not is_size(cells):
            raise NoYard("the number of cells is no size")
        self.cells = cells
        self._sizes = {}
        self._pool = Pool(cells)
        self._pool.put(0, cells)

    def give(self, want):
        """Give out a piece of the wish's fitting size; where it begins."""
        size = self._fitting(want)
        found = self._pool.best(size)
        if found is None:
            raise NoRoom("no free piece is large enough")
        at, large = found
        self._pool.drop(at, large)
        self._cut(at, large, size)
        self._sizes[at] = size
        return at

    def take_back(self, at):
        """Take back the piece that is out and begins there; the size that it had."""
        size = self._size_of(at)
        del self._sizes[at]
        self._join(at, size)
        return size

    def resize(self, at, want):
        """Give the piece that is out and begins there the wish's fitting size; that size."""
        had = self._size_of(at)
        size = self._fitting(want)
        if size > had:
            self._grow(at, had, size)
        else:
            self._cut(at, had, size)
        self._sizes[at] = size
        return size

    def free(self):
        """A new list of the free pieces, by rising places."""
        return self._pool.pieces()

    def out(self):
        """A new list of the pieces that are out, by rising places."""
        return sorted(self._sizes.items())

    def owner(self, cell):
        """Where the piece that is out begins that has this cell; None if there is none."""
        # A cell off the yard needs no test of its own: each place tried for it
        # lies off the yard too, and nothing begins there.
        size = 1
        while size <= self.cells:
            at = cell - cell % size
            if self._sizes.get(at) == size:
                return at
            size *= 2
        return None

    def _fitting(self, want):
        """The fitting size of a wish; NoWish below 1, NoRoom beyond the yard's cells."""
        # Looked at first, as size_for has NoWish for what is beyond the greatest size.
        if want > self.cells:
            raise NoRoom("the wish is for more cells than the yard has")
        return size_for(want)

    def _size_of(self, at):
        """The size of the piece that is out and begins there; NotOut if there is none."""
        if at not in self._sizes:
            raise NotOut("no piece that is out begins at this place")
        return self._sizes[at]

    def _cut(self, at, size, least):
        """Free the upper halves of a piece that is halved till it has the least size."""
        for half, half_size in upper_halves(at, size, least):
            self._pool.put(half, half_size)

    def _grow(self, at, had, size):
        """Take the free cells that make a piece larger; NoRoom where one is not free."""
        # As no two twins are free, cells that are all free and could be one
        # piece are one: so each half that is missing is itself a free piece.
        halves = upper_halves(at, size, had)
        if at % size != 0 or not all([self._pool.has(half, half_size) for half, half_size in halves]):
            raise NoRoom("the piece can't get so large where it stands")
        for half, half_size in halves:
            self._pool.drop(half, half_size)

    def _join(self, at, size):
        """Free a piece, joined with its twin as long as that is free."""
        # This ends at the whole yard at the latest: its twin lies outside and is never free.
        twin = twin_of(at, size)
        while self._pool.has(twin, size):
            self._pool.drop(twin, size)
            at = min(at, twin)
            size *= 2
            twin = twin_of(at, size)
        self._pool.put(at, size)
