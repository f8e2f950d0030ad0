"""Points 4 to 7 in long runs of deeds, and in every state of a small yard."""

import unittest

from buddyyard.errors import NoRoom, NotOut, NoWish
from buddyyard.yard import Yard

from plain import (FAR, GREATEST, Numbers, PlainYard, Watched, check_pieces, outcome, states,
                   watched, yard_with)

CELLS = (1, 2, 4, 8, 16, 32, 64, 128, 1024, 2 ** 20, 2 ** 59, GREATEST)
ORDERS = {
    "rising": lambda places, numbers: sorted(places),
    "falling": lambda places, numbers: sorted(places, reverse=True),
    "every other one": lambda places, numbers: sorted(places)[::2] + sorted(places)[1::2],
    "mixed": lambda places, numbers: numbers.mixed(places),
}


def some_wish(cells, numbers):
    """Mostly a wish that may be granted; now and then one that can't be."""
    dice = numbers.below(20)
    if dice < 8:
        return 1 + numbers.below(9)
    if dice < 17:
        part = cells >> numbers.below(cells.bit_length() + 1)
        return part + numbers.below(3) - 1
    if dice == 17:
        return 1 + numbers.below(cells)
    return numbers.one_of((0, -1, -cells, -FAR, cells, cells + 1, cells * 2, GREATEST + 1, FAR))


def some_place(watch, numbers):
    """Mostly where a piece begins that is out; now and then any other place."""
    places = sorted(watch.plain.given)
    if places and numbers.below(6):
        return numbers.one_of(places)
    cells = watch.yard.cells
    near = numbers.one_of(places or [0]) + numbers.below(5) - 2
    return numbers.one_of((near, numbers.below(cells), cells, cells + 1, -1, -cells, FAR, -FAR))


def some_deed(watch, numbers, eager):
    """One deed; the eager ones give more than they take back."""
    cells = watch.yard.cells
    dice = numbers.below(10)
    if dice < (5 if eager else 3):
        return watch.deed("give", some_wish(cells, numbers))
    if dice < 7:
        return watch.deed("take_back", some_place(watch, numbers))
    return watch.deed("resize", some_place(watch, numbers), some_wish(cells, numbers))


class PlainCells:
    """For a small yard: a plain list of which cells are out, cell by cell."""

    def __init__(self, test, cells):
        self.test = test
        self.cells = [None] * cells

    def room(self, size):
        """Whether a piece of this size is without a cell that is out."""
        rows = [self.cells[at:at + size] for at in range(0, len(self.cells), size)]
        return any(row == [None] * size for row in rows)

    def lay(self, at, size):
        for cell in range(at, at + size):
            self.test.assertIsNone(self.cells[cell])
            self.cells[cell] = at

    def lift(self, at):
        many = self.cells.count(at)
        self.cells = [None if owner == at else owner for owner in self.cells]
        return many


class TestLongRuns(unittest.TestCase):
    def test_each_deed_is_as_the_document_says(self):
        for cells in CELLS:
            for seed in range(4):
                with self.subTest(cells=cells, seed=seed):
                    numbers = Numbers(seed * 100 + cells)
                    watch = watched(self, cells)
                    answers = [some_deed(watch, numbers, seed % 2) for _ in range(700)]
                    for kind in (NoWish, NoRoom, NotOut):
                        self.assertIn(kind, answers)
                    watch.all_back(numbers.mixed(watch.plain.given))

    def test_all_comes_back_in_any_order(self):
        for cells in (8, 128, 1024, 2 ** 59, GREATEST):
            for name, order in ORDERS.items():
                with self.subTest(cells=cells, order=name):
                    numbers = Numbers(cells)
                    watch = watched(self, cells)
                    for _ in range(150):
                        some_deed(watch, numbers, True)
                    watch.all_back(order(list(watch.plain.given), numbers))

    def test_owners_and_refusals_cell_by_cell(self):
        for cells in (1, 2, 4, 8, 32, 128):
            for seed in range(3):
                with self.subTest(cells=cells, seed=seed):
                    self.run_by_cells(cells, Numbers(seed * 7 + cells))

    def run_by_cells(self, cells, numbers):
        yard = Yard(cells)
        plain = PlainCells(self, cells)
        for _ in range(400):
            if numbers.below(5) < 3:
                self.give_by_cells(yard, plain, 1 + numbers.below(min(cells, 9)))
            elif yard.out():
                at, size = numbers.one_of(yard.out())
                self.assertEqual(yard.take_back(at), size)
                self.assertEqual(plain.lift(at), size)
            self.assertEqual([yard.owner(cell) for cell in range(cells)], plain.cells)
            self.assertIsNone(yard.owner(-1))
            self.assertIsNone(yard.owner(cells))

    def give_by_cells(self, yard, plain, want):
        size = 1
        while size < want:
            size *= 2
        room = plain.room(size)
        answer = outcome(yard.give, want)
        if room:
            plain.lay(answer, size)
        else:
            self.assertIs(answer, NoRoom)

    def test_owners_in_large_yards(self):
        for cells in (2 ** 20, 2 ** 59, GREATEST):
            with self.subTest(cells=cells):
                numbers = Numbers(cells + 5)
                watch = watched(self, cells)
                for _ in range(200):
                    some_deed(watch, numbers, True)
                for at, size in watch.yard.out():
                    for cell in (at - 1, at, at + size // 2, at + size - 1, at + size):
                        self.assertEqual(watch.yard.owner(cell), watch.plain.owner(cell))
                for at, size in watch.yard.free():
                    for cell in (at, at + size // 2, at + size - 1):
                        self.assertIsNone(watch.yard.owner(cell))

    def test_two_yards_in_turns(self):
        for cells, others in ((64, 64), (8, GREATEST)):
            with self.subTest(cells=cells, others=others):
                numbers = Numbers(3)
                pair = (watched(self, cells), watched(self, others))
                for _ in range(300):
                    some_deed(numbers.one_of(pair), numbers, True)
                    pair[0].check()
                    pair[1].check()

    def test_many_pieces(self):
        cells = 2 ** 14
        yard = Yard(cells)
        for cell in range(cells):
            self.assertEqual(yard.give(1), cell)
        for cell in range(0, cells, 2):
            yard.take_back(cell)
        self.assertEqual(yard.free(), [(cell, 1) for cell in range(0, cells, 2)])
        self.assertIs(outcome(yard.give, 2), NoRoom)
        for cell in range(0, cells, 2):
            self.assertEqual(yard.give(1), cell)
        for cell in range(cells - 1, -1, -1):
            yard.take_back(cell)
        self.assertEqual(yard.free(), [(0, cells)])


class TestEveryState(unittest.TestCase):
    """All that can be out in a yard of one, two, four or eight cells, and every deed then."""

    def test_what_is_free_depends_on_what_is_out(self):
        for cells, many in ((1, 2), (2, 5), (4, 26), (8, 677)):
            found = states(cells)
            self.assertEqual(len(found), many)
            for given in found:
                yard = yard_with(cells, given)
                self.assertEqual(yard.out(), sorted(given.items()))
                self.assertEqual(yard.free(), PlainYard(cells, given).free())
                check_pieces(self, yard)

    def test_give(self):
        for cells in (1, 2, 4, 8):
            for given in states(cells):
                for want in range(-1, cells + 2):
                    Watched(self, yard_with(cells, given), given).deed("give", want)

    def test_take_back(self):
        for cells in (1, 2, 4, 8):
            for given in states(cells):
                for at in range(-2, cells + 2):
                    Watched(self, yard_with(cells, given), given).deed("take_back", at)

    def test_resize(self):
        for cells in (1, 2, 4, 8):
            for given in states(cells):
                for at in range(-1, cells + 1):
                    wishes = range(0, cells + 2) if at in given else (0, 1, cells + 1)
                    for want in wishes:
                        watch = Watched(self, yard_with(cells, given), given)
                        watch.deed("resize", at, want)

    def test_owner(self):
        for cells in (1, 2, 4, 8):
            for given in states(cells):
                yard = yard_with(cells, given)
                plain = PlainYard(cells, given)
                for cell in range(-cells, cells * 2 + 1):
                    self.assertEqual(yard.owner(cell), plain.owner(cell))


if __name__ == "__main__":
    unittest.main()
