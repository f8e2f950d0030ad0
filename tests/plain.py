"""What DOC.md says of a yard, done in the plainest way, for the tests to hold a Yard against."""

from buddyyard import errors
from buddyyard.yard import Yard

KINDS = (errors.NoYard, errors.NoWish, errors.NoRoom, errors.NotOut, errors.NoNote)
GREATEST = 1152921504606846976
FAR = 10 ** 30
LONG = 10 ** 5000
SIZES = {2 ** exponent for exponent in range(61)}


def words(number):
    """A number as words for a message; Python writes out no very long one in decimals."""
    return hex(number) if isinstance(number, int) else repr(number)


def takes(caught, deed, arguments):
    """Whether `except caught` takes what the deed raises."""
    try:
        deed(*arguments)
    except caught:
        return True
    except Exception:
        return False
    return False


def outcome(deed, *arguments):
    """The deed's answer, or the class of its refusal."""
    try:
        return deed(*arguments)
    except errors.YardError as refusal:
        return type(refusal)


def check_refused(test, kind, deed, *arguments):
    """The deed is refused, and taken by `kind`, YardError and ValueError and by no other kind."""
    for caught in (kind, errors.YardError, ValueError):
        test.assertTrue(takes(caught, deed, arguments), caught)
    for other in KINDS:
        if other is not kind:
            test.assertFalse(takes(other, deed, arguments), other)


def fitting(want):
    """Point 3, by doubling."""
    size = 1
    while size < want:
        size *= 2
    return size


class Numbers:
    """Numbers in a wild order, the same ones in every run."""

    def __init__(self, seed):
        self.state = seed * 2 + 1

    def below(self, many):
        self.state = (self.state * 6364136223846793005 + 1442695040888963407) % 2 ** 64
        return (self.state >> 33) % many

    def one_of(self, things):
        return things[self.below(len(things))]

    def mixed(self, things):
        left = list(things)
        found = []
        while left:
            found.append(left.pop(self.below(len(left))))
        return found


class PlainYard:
    """A yard that keeps only what is out; what is free is worked out anew each time.

    A refusal is answered by its class instead of being raised.
    """

    def __init__(self, cells, given=None):
        self.cells = cells
        self.given = dict(given or {})

    def out(self):
        return sorted(self.given.items())

    def gaps(self):
        """The longest rows of cells that are not out, each from .. to (without)."""
        found = []
        begin = 0
        for at, size in self.out():
            if at > begin:
                found.append((begin, at))
            begin = at + size
        if begin < self.cells:
            found.append((begin, self.cells))
        return found

    def free(self):
        """Each gap laid with the greatest pieces, from its first cell on."""
        found = []
        for at, end in self.gaps():
            while at < end:
                size = 1
                while at % (size * 2) == 0 and at + size * 2 <= end:
                    size *= 2
                found.append((at, size))
                at += size
        return found

    def has_room(self, size):
        """Whether a piece of this size lies, wherever, in cells that are not out."""
        return any((begin + size - 1) // size * size + size <= end for begin, end in self.gaps())

    def give(self, want):
        if want < 1:
            return errors.NoWish
        if not self.has_room(fitting(want)):
            return errors.NoRoom
        _, at = min((size, at) for at, size in self.free() if size >= fitting(want))
        self.given[at] = fitting(want)
        return at

    def take_back(self, at):
        if at not in self.given:
            return errors.NotOut
        return self.given.pop(at)

    def resize(self, at, want):
        if at not in self.given:
            return errors.NotOut
        if want < 1:
            return errors.NoWish
        size = fitting(want)
        others = [(begin, end) for begin, end in self.out() if begin != at]
        if size > self.given[at]:
            if at % size or at + size > self.cells:
                return errors.NoRoom
            if any(begin < at + size and at < begin + had for begin, had in others):
                return errors.NoRoom
        self.given[at] = size
        return size

    def give_all(self, wants):
        if any(want < 1 for want in wants):
            return errors.NoWish
        before = dict(self.given)
        places = [None] * len(wants)
        for size in sorted({fitting(want) for want in wants}, reverse=True):
            for turn, want in enumerate(wants):
                if fitting(want) == size:
                    places[turn] = self.give(want)
                    if places[turn] is errors.NoRoom:
                        self.given = before
                        return errors.NoRoom
        return places

    def owner(self, cell):
        for at, size in self.given.items():
            if at <= cell < at + size:
                return at
        return None


def faults_of(free, out, cells):
    """What points 2 and 4 and the interface don't allow in the lists that a yard answers."""
    found = []
    for pieces in (free, out):
        if type(pieces) is not list or pieces != sorted(pieces):
            found.append(("no rising list", pieces))
        for piece in pieces:
            if type(piece) is not tuple or [type(number) for number in piece] != [int, int]:
                found.append(("no pair of whole numbers", piece))
    begin = 0
    for at, size in sorted(free + out):
        if at != begin:
            found.append(("not side by side", at))
        if size not in SIZES or at % size:
            found.append(("no piece", at, size))
        begin = at + size
    if begin != cells:
        found.append(("not all cells", begin))
    for (at, size), (behind, other) in zip(free, free[1:]):
        if at + size == behind and size == other and at // size % 2 == 0:
            found.append(("free twins", at, behind, size))
    return found


def check_pieces(test, yard):
    """Points 2 and 4 of the lists that a yard answers."""
    test.assertEqual(faults_of(yard.free(), yard.out(), yard.cells), [])


class Watched:
    """A yard and a plain yard to which the same is done; each deed is held against the document."""

    def __init__(self, test, yard, given=None):
        self.test = test
        self.yard = yard
        self.plain = PlainYard(yard.cells, given)
        self.check()

    def check(self):
        check_pieces(self.test, self.yard)
        self.test.assertEqual(self.yard.out(), self.plain.out())
        self.test.assertEqual(self.yard.free(), self.plain.free())

    def deed(self, name, *arguments):
        """Do it to both; the answer or the class of the refusal."""
        before = (self.yard.free(), self.yard.out())
        answer = outcome(getattr(self.yard, name), *arguments)
        told = (name, [words(number) for number in arguments])
        self.test.assertEqual(answer, getattr(self.plain, name)(*arguments), told)
        if answer in KINDS:
            self.test.assertEqual((self.yard.free(), self.yard.out()), before, told)
        else:
            self.test.assertIs(type(answer), int)
        self.check()
        return answer

    def all_back(self, order):
        """All that is out comes back in this order; the yard is one free piece then."""
        for at in order:
            self.deed("take_back", at)
        self.test.assertEqual(self.yard.out(), [])
        self.test.assertEqual(self.yard.free(), [(0, self.yard.cells)])


def watched(test, cells):
    return Watched(test, Yard(cells))


def states(cells):
    """All that can be out in a yard of so many cells: dicts from a place to a size."""

    def within(at, size):
        found = [{}] if size == 1 else [
            {**lower, **upper}
            for lower in within(at, size // 2)
            for upper in within(at + size // 2, size // 2)
        ]
        return found + [{at: size}]

    return within(0, cells)


def yard_with(cells, given):
    """A yard in which just these pieces are out.

    Cell by cell all is given out; then each piece that is wanted is made of its
    first cell, when the others of it have come back, and the rest comes back.
    """
    yard = Yard(cells)
    for _ in range(cells):
        yard.give(1)
    for at, size in given.items():
        for cell in range(at + 1, at + size):
            yard.take_back(cell)
        yard.resize(at, size)
    owned = [cell for at, size in given.items() for cell in range(at, at + size)]
    for cell in range(cells):
        if cell not in owned:
            yard.take_back(cell)
    return yard
