"""The free pieces of one yard, kept by size."""


def rank(places, at):
    """How many of the rising places lie ahead of the place `at`."""
    low = 0
    high = len(places)
    while low < high:
        middle = (low + high) // 2
        if places[middle] < at:
            low = middle + 1
        else:
            high = middle
    return low


class Pool:
    """The free pieces of a yard of so many cells, at first none."""

    def __init__(self, cells):
        # The sizes are put in from the least one on, and a dict keeps that
        # order; the places of one size are kept rising.
        self._places = {}
        size = 1
        while size <= cells:
            self._places[size] = []
            size *= 2

    def put(self, at, size):
        """The piece (at, size) is free from now on."""
        places = self._places[size]
        places.insert(rank(places, at), at)

    def drop(self, at, size):
        """The piece (at, size), which is free, is so no longer."""
        places = self._places[size]
        del places[rank(places, at)]

    def has(self, at, size):
        """Whether (at, size) is a free piece, neither a part of one nor several."""
        places = self._places[size]
        ahead = rank(places, at)
        return ahead < len(places) and places[ahead] == at

    def best(self, size):
        """The smallest piece of this size or larger, of equal ones the first; None if there is none."""
        for large, places in self._places.items():
            if large >= size and places:
                return (places[0], large)
        return None

    def pieces(self):
        """A new list of all free pieces, by rising places."""
        return sorted([(at, size) for size, places in self._places.items() for at in places])
