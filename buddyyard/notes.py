"""A yard shown as a text, and read from one."""

from buddyyard.errors import NoNote
from buddyyard.sizes import MOST, is_size, twin_of
from buddyyard.yard import Yard

OUT = "out"
FREE = "free"


def shown(yard):
    """The text with a row for each piece of the yard, by rising places."""
    rows = [(at, size, OUT) for at, size in yard.out()]
    rows.extend([(at, size, FREE) for at, size in yard.free()])
    return "\n".join([f"{at} {size} {state}" for at, size, state in sorted(rows)])


def read(text):
    """The yard that a text shows; NoNote where it shows none."""
    rows = [read_row(row) for row in text.split("\n")]
    cells = count_cells(rows)
    refuse_free_twins(rows)
    return yard_of(cells, rows)


def read_row(row):
    """The place, the size and the state that a row tells; NoNote where it tells no piece."""
    words = row.split(" ")
    if len(words) != 3 or words[2] not in (OUT, FREE):
        raise NoNote("a row has another form")
    at = read_number(words[0])
    size = read_number(words[1])
    if not is_size(size) or at % size != 0:
        raise NoNote("a row tells a piece that is none")
    return (at, size, words[2])


def read_number(word):
    """The number that a word writes as a yard is shown; NoNote for any other word."""
    # No yard has a number of more figures than MOST, and int fails with an
    # error of its own where they are thousands.
    if not word.isdecimal() or len(word) > len(str(MOST)):
        raise NoNote("a word is no number of a yard")
    number = int(word)
    if str(number) != word:
        raise NoNote("a number begins with a nought too many")
    return number


def count_cells(rows):
    """How many cells the rows have together; NoNote where that makes no yard."""
    cells = 0
    for at, size, _ in rows:
        if at != cells:
            raise NoNote("the rows don't stand side by side from nought on")
        cells += size
    if not is_size(cells):
        raise NoNote("the number of cells is no size")
    return cells


def refuse_free_twins(rows):
    """NoNote where two twins are both free."""
    sizes = {at: size for at, size, state in rows if state == FREE}
    for at, size in sizes.items():
        if sizes.get(twin_of(at, size)) == size:
            raise NoNote("two twins are both free")


def yard_of(cells, rows):
    """A yard with just these pieces."""
    yard = Yard(cells)
    # All are given out, from nought on, so that each comes to its own place:
    # what is left free then begins just there with its smallest piece, which
    # is large enough, as the place is a multiple of the row's size.
    back = []
    for at, size, state in rows:
        yard.give(size)
        if state == FREE:
            back.append(at)
    for at in back:
        yard.take_back(at)
    return yard
