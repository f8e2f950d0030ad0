"""Points 1, 2, 4, 5, 6 and 7 and the interface of a yard, by hand and at the edges."""

import unittest

from buddyyard import yard as yard_file
from buddyyard.errors import NoRoom, NotOut, NoWish, NoYard
from buddyyard.yard import Yard

from plain import FAR, GREATEST, LONG, Watched, check_pieces, check_refused, watched, words

SIZES = [2 ** exponent for exponent in range(61)]
METHODS = ("__init__", "give", "take_back", "resize", "free", "out", "owner")


def yard_of_singles(cells, back=()):
    """A yard of which each cell is out as a piece of its own, but for those that are back."""
    yard = Yard(cells)
    for cell in range(cells):
        assert yard.give(1) == cell
    for cell in back:
        yard.take_back(cell)
    return yard


class TestNewYard(unittest.TestCase):
    """Points 1 and 4."""

    def test_every_size(self):
        for cells in SIZES:
            with self.subTest(cells=cells):
                yard = Yard(cells)
                self.assertEqual(yard.cells, cells)
                self.assertIs(type(yard.cells), int)
                self.assertEqual(yard.free(), [(0, cells)])
                self.assertEqual(yard.out(), [])
                check_pieces(self, yard)

    def test_no_size(self):
        numbers = [0, 3, 5, 6, 7, 9, 100, -1, -2, -4, -GREATEST, -GREATEST * 2]
        numbers += [GREATEST - 1, GREATEST + 1, GREATEST * 2, GREATEST * 4, GREATEST * 3 // 2]
        numbers += [2 ** 62, 2 ** 63, 2 ** 64, FAR, -FAR, LONG, -LONG, 2 ** 20000, -(2 ** 20000)]
        for number in numbers:
            with self.subTest(number=words(number)):
                check_refused(self, NoYard, Yard, number)

    def test_small_numbers_one_by_one(self):
        for number in range(-70, 300):
            with self.subTest(number=number):
                if number in SIZES:
                    self.assertEqual(Yard(number).cells, number)
                else:
                    check_refused(self, NoYard, Yard, number)

    def test_cells_stay_as_they_are(self):
        yard = Yard(8)
        yard.give(3)
        yard.give(4)
        yard.take_back(0)
        self.assertEqual(yard.cells, 8)


class TestHome(unittest.TestCase):
    def test_each_name_is_defined_in_its_file(self):
        self.assertEqual(Yard.__module__, "buddyyard.yard")
        self.assertIs(yard_file.Yard, Yard)
        for name in METHODS:
            with self.subTest(name=name):
                self.assertIn(name, vars(Yard))


class TestGive(unittest.TestCase):
    """Points 3, 4 and 5."""

    def test_halved_till_it_fits(self):
        yard = Yard(16)
        self.assertEqual(yard.give(3), 0)
        self.assertEqual(yard.out(), [(0, 4)])
        self.assertEqual(yard.free(), [(4, 4), (8, 8)])
        self.assertEqual(yard.give(1), 4)
        self.assertEqual(yard.out(), [(0, 4), (4, 1)])
        self.assertEqual(yard.free(), [(5, 1), (6, 2), (8, 8)])
        self.assertEqual(yard.give(5), 8)
        self.assertEqual(yard.give(2), 6)
        self.assertEqual(yard.give(1), 5)
        self.assertEqual(yard.out(), [(0, 4), (4, 1), (5, 1), (6, 2), (8, 8)])
        self.assertEqual(yard.free(), [])

    def test_the_smallest_that_is_large_enough(self):
        # Free: (0, 8), (10, 2), (12, 4).
        yard = Yard(16)
        yard.give(8)
        yard.give(2)
        yard.take_back(0)
        self.assertEqual(yard.free(), [(0, 8), (10, 2), (12, 4)])
        self.assertEqual(yard.give(2), 10)
        self.assertEqual(yard.give(2), 12)
        self.assertEqual(yard.give(2), 14)
        self.assertEqual(yard.give(2), 0)
        self.assertEqual(yard.free(), [(2, 2), (4, 4)])

    def test_one_that_is_halved_ahead_of_a_larger_one_at_a_lesser_place(self):
        # Free: (0, 8), (12, 4).
        yard = Yard(16)
        yard.give(8)
        yard.give(4)
        yard.take_back(0)
        self.assertEqual(yard.give(1), 12)
        self.assertEqual(yard.free(), [(0, 8), (13, 1), (14, 2)])

    def test_of_equally_small_ones_the_least_place(self):
        for back in ([2, 5], [5, 2], [7, 0, 3, 4], [6, 1]):
            with self.subTest(back=back):
                yard = yard_of_singles(8, back)
                for cell in sorted(back):
                    self.assertEqual(yard.give(1), cell)
                check_refused(self, NoRoom, yard.give, 1)

    def test_too_small_ones_are_passed_over(self):
        yard = yard_of_singles(8, [0, 2, 4, 6, 7])
        self.assertEqual(yard.free(), [(0, 1), (2, 1), (4, 1), (6, 2)])
        self.assertEqual(yard.give(2), 6)
        check_refused(self, NoRoom, yard.give, 2)
        self.assertEqual(yard.free(), [(0, 1), (2, 1), (4, 1)])

    def test_cells_side_by_side_that_are_no_piece_give_no_room(self):
        yard = yard_of_singles(8, [1, 2, 3, 4, 5, 6])
        self.assertEqual(yard.free(), [(1, 1), (2, 2), (4, 2), (6, 1)])
        check_refused(self, NoRoom, yard.give, 4)
        check_refused(self, NoRoom, yard.give, 3)
        self.assertEqual(yard.give(2), 2)

    def test_every_wish_in_a_new_yard(self):
        for want in range(1, 65):
            with self.subTest(want=want):
                watched(self, 64).deed("give", want)

    def test_the_whole_yard(self):
        for cells in SIZES:
            with self.subTest(cells=cells):
                yard = Yard(cells)
                self.assertEqual(yard.give(cells), 0)
                self.assertEqual(yard.out(), [(0, cells)])
                self.assertEqual(yard.free(), [])
                check_refused(self, NoRoom, yard.give, 1)
                check_refused(self, NoRoom, yard.give, cells)

    def test_one_cell_of_every_yard(self):
        for place, cells in enumerate(SIZES):
            with self.subTest(cells=cells):
                yard = Yard(cells)
                self.assertEqual(yard.give(1), 0)
                self.assertEqual(yard.out(), [(0, 1)])
                self.assertEqual(yard.free(), [(size, size) for size in SIZES[:place]])

    def test_below_one(self):
        for cells in (1, 2, 128, 2 ** 59, GREATEST):
            for want in (0, -1, -2, -3, -cells, -GREATEST - 1, -FAR, -LONG):
                with self.subTest(cells=cells, want=words(want)):
                    yard = Yard(cells)
                    check_refused(self, NoWish, yard.give, want)
                    self.assertEqual(yard.free(), [(0, cells)])
                    yard.give(cells)
                    check_refused(self, NoWish, yard.give, want)
                    self.assertEqual(yard.out(), [(0, cells)])

    def test_more_than_the_yard_has(self):
        for cells in (1, 2, 128, 2 ** 59, GREATEST):
            wishes = (cells + 1, cells * 2 - 1, cells * 2, cells * 2 + 1, GREATEST + 1,
                      GREATEST * 2, GREATEST * 2 + 1, 2 ** 64, FAR, LONG, 2 ** 20000)
            for want in wishes:
                if want > cells:
                    with self.subTest(cells=cells, want=words(want)):
                        yard = Yard(cells)
                        check_refused(self, NoRoom, yard.give, want)
                        self.assertEqual(yard.free(), [(0, cells)])
                        self.assertEqual(yard.out(), [])

    def test_a_yard_of_one_cell(self):
        yard = Yard(1)
        self.assertEqual(yard.give(1), 0)
        check_refused(self, NoRoom, yard.give, 1)
        check_refused(self, NoRoom, yard.give, 2)
        check_refused(self, NoWish, yard.give, 0)
        self.assertEqual(yard.take_back(0), 1)
        self.assertEqual(yard.free(), [(0, 1)])

    def test_the_greatest_yard(self):
        yard = Yard(GREATEST)
        half = GREATEST // 2
        self.assertEqual(yard.give(half - 1), 0)
        self.assertEqual(yard.give(1), half)
        check_refused(self, NoRoom, yard.give, half)
        check_refused(self, NoRoom, yard.give, half // 2 + 1)
        self.assertEqual(yard.give(half // 2), half + half // 2)
        self.assertEqual(yard.take_back(half), 1)
        self.assertEqual(yard.free(), [(half, half // 2)])
        self.assertEqual(yard.take_back(0), half)
        self.assertEqual(yard.free(), [(0, half), (half, half // 2)])
        self.assertEqual(yard.take_back(half + half // 2), half // 2)
        self.assertEqual(yard.free(), [(0, GREATEST)])


class TestTakeBack(unittest.TestCase):
    """Points 4 and 6."""

    def test_the_size_that_the_piece_had(self):
        for want, size in ((1, 1), (2, 2), (3, 4), (5, 8), (9, 16), (17, 32), (33, 64), (64, 64)):
            with self.subTest(want=want):
                yard = Yard(64)
                yard.give(want)
                self.assertEqual(yard.take_back(0), size)
                self.assertEqual(yard.free(), [(0, 64)])

    def test_joined_and_joined_again(self):
        yard = yard_of_singles(8)
        self.assertEqual(yard.take_back(3), 1)
        self.assertEqual(yard.free(), [(3, 1)])
        self.assertEqual(yard.take_back(1), 1)
        self.assertEqual(yard.free(), [(1, 1), (3, 1)])
        self.assertEqual(yard.take_back(2), 1)
        self.assertEqual(yard.free(), [(1, 1), (2, 2)])
        self.assertEqual(yard.take_back(0), 1)
        self.assertEqual(yard.free(), [(0, 4)])
        for cell in (7, 6, 4):
            yard.take_back(cell)
        self.assertEqual(yard.free(), [(0, 4), (4, 1), (6, 2)])
        self.assertEqual(yard.take_back(5), 1)
        self.assertEqual(yard.free(), [(0, 8)])

    def test_side_by_side_but_no_twins(self):
        yard = yard_of_singles(8, [1, 2])
        self.assertEqual(yard.free(), [(1, 1), (2, 1)])
        yard = yard_of_singles(8, [2, 3, 4, 5])
        self.assertEqual(yard.free(), [(2, 2), (4, 2)])

    def test_a_twin_that_is_partly_out(self):
        yard = yard_of_singles(4, [0, 1, 2])
        self.assertEqual(yard.free(), [(0, 2), (2, 1)])

    def test_each_cell_last(self):
        for last in range(32):
            with self.subTest(last=last):
                yard = yard_of_singles(32)
                for cell in range(32):
                    if cell != last:
                        yard.take_back(cell)
                self.assertEqual(yard.out(), [(last, 1)])
                self.assertEqual(len(yard.free()), 5)
                check_pieces(self, yard)
                self.assertEqual(yard.take_back(last), 1)
                self.assertEqual(yard.free(), [(0, 32)])

    def test_places_at_which_no_piece_begins_that_is_out(self):
        # Out: (0, 4), (4, 1), (8, 2).  Free: (5, 1), (6, 2), (10, 2), (12, 4).
        yard = Yard(16)
        for want in (4, 1, 4):
            yard.give(want)
        yard.resize(8, 2)
        before = (yard.free(), yard.out())
        self.assertEqual(before[1], [(0, 4), (4, 1), (8, 2)])
        within = [1, 2, 3, 9]
        free = [5, 6, 7, 10, 11, 12, 13, 15]
        beyond = [16, 17, 24, 32, GREATEST, FAR, LONG]
        below = [-1, -2, -4, -8, -12, -16, -GREATEST, -FAR, -LONG]
        for at in within + free + beyond + below:
            with self.subTest(at=words(at)):
                check_refused(self, NotOut, yard.take_back, at)
                self.assertEqual((yard.free(), yard.out()), before)

    def test_once_only(self):
        yard = Yard(8)
        yard.give(2)
        yard.give(2)
        yard.take_back(0)
        check_refused(self, NotOut, yard.take_back, 0)
        self.assertEqual(yard.out(), [(2, 2)])
        yard.take_back(2)
        check_refused(self, NotOut, yard.take_back, 2)
        check_refused(self, NotOut, yard.take_back, 0)
        self.assertEqual(yard.free(), [(0, 8)])

    def test_a_new_yard(self):
        for cells in (1, 2, 128, GREATEST):
            for at in (0, 1, cells // 2, cells - 1, cells, -1, -cells):
                with self.subTest(cells=cells, at=at):
                    yard = Yard(cells)
                    check_refused(self, NotOut, yard.take_back, at)
                    self.assertEqual(yard.free(), [(0, cells)])


class TestResize(unittest.TestCase):
    """Point 7."""

    def test_smaller(self):
        yard = Yard(16)
        yard.give(16)
        self.assertEqual(yard.resize(0, 5), 8)
        self.assertEqual(yard.out(), [(0, 8)])
        self.assertEqual(yard.free(), [(8, 8)])
        self.assertEqual(yard.resize(0, 1), 1)
        self.assertEqual(yard.out(), [(0, 1)])
        self.assertEqual(yard.free(), [(1, 1), (2, 2), (4, 4), (8, 8)])

    def test_smaller_behind_nought(self):
        yard = Yard(16)
        yard.give(8)
        yard.give(8)
        self.assertEqual(yard.resize(8, 2), 2)
        self.assertEqual(yard.out(), [(0, 8), (8, 2)])
        self.assertEqual(yard.free(), [(10, 2), (12, 4)])

    def test_the_same(self):
        for want in (5, 6, 7, 8):
            with self.subTest(want=want):
                yard = Yard(32)
                yard.give(8)
                yard.give(8)
                self.assertEqual(yard.resize(8, want), 8)
                self.assertEqual(yard.out(), [(0, 8), (8, 8)])
                self.assertEqual(yard.free(), [(16, 16)])

    def test_larger(self):
        yard = Yard(16)
        yard.give(1)
        self.assertEqual(yard.resize(0, 2), 2)
        self.assertEqual(yard.out(), [(0, 2)])
        self.assertEqual(yard.free(), [(2, 2), (4, 4), (8, 8)])
        self.assertEqual(yard.resize(0, 7), 8)
        self.assertEqual(yard.free(), [(8, 8)])
        self.assertEqual(yard.resize(0, 9), 16)
        self.assertEqual(yard.out(), [(0, 16)])
        self.assertEqual(yard.free(), [])

    def test_larger_at_a_place_that_is_no_multiple(self):
        # Free: (0, 4), (5, 1), (6, 2), (8, 8): all but the cell 4.
        yard = Yard(16)
        yard.give(4)
        yard.give(1)
        yard.take_back(0)
        self.assertEqual(yard.out(), [(4, 1)])
        before = yard.free()
        for want in (5, 8, 9, 16):
            with self.subTest(want=want):
                check_refused(self, NoRoom, yard.resize, 4, want)
                self.assertEqual((yard.out(), yard.free()), ([(4, 1)], before))
        self.assertEqual(yard.resize(4, 3), 4)
        self.assertEqual(yard.free(), [(0, 4), (8, 8)])

    def test_an_odd_place_with_a_free_piece_behind_it(self):
        # (4, 4) is followed by the free (8, 8), and by (8, 4) once that is halved.
        yard = Yard(16)
        for want in (4, 4, 4, 4):
            yard.give(want)
        yard.take_back(8)
        self.assertEqual(yard.free(), [(8, 4)])
        check_refused(self, NoRoom, yard.resize, 4, 8)
        self.assertEqual(yard.out(), [(0, 4), (4, 4), (12, 4)])
        self.assertEqual(yard.free(), [(8, 4)])

    def test_larger_where_a_cell_beside_is_out(self):
        for cell in range(1, 16):
            with self.subTest(cell=cell):
                yard = yard_of_singles(16, [other for other in range(1, 16) if other != cell])
                before = yard.free()
                size = 1
                while size <= cell:
                    size *= 2
                for want in (size, 16):
                    check_refused(self, NoRoom, yard.resize, 0, want)
                    self.assertEqual((yard.out(), yard.free()), ([(0, 1), (cell, 1)], before))
                self.assertEqual(yard.resize(0, size // 2), size // 2)
                self.assertEqual(yard.out(), [(0, size // 2), (cell, 1)])

    def test_larger_where_the_yard_ends(self):
        yard = Yard(8)
        yard.give(8)
        yard.resize(0, 4)
        yard.give(4)
        for want in (5, 8):
            check_refused(self, NoRoom, yard.resize, 4, want)
        yard.take_back(0)
        for want in (5, 8, 9, 16):
            check_refused(self, NoRoom, yard.resize, 4, want)
        self.assertEqual(yard.out(), [(4, 4)])
        self.assertEqual(yard.free(), [(0, 4)])

    def test_wishes_at_the_edges(self):
        for cells in (1, 2, 128, 2 ** 59, GREATEST):
            yard = Yard(cells)
            yard.give(1)
            self.assertEqual(yard.resize(0, cells), cells)
            self.assertEqual(yard.out(), [(0, cells)])
            beyond = (cells + 1, cells * 2, GREATEST + 1, GREATEST * 2, 2 ** 64, FAR, LONG)
            for want in beyond:
                with self.subTest(cells=cells, want=words(want)):
                    if want > cells:
                        check_refused(self, NoRoom, yard.resize, 0, want)
                        self.assertEqual(yard.out(), [(0, cells)])
            for want in (0, -1, -cells, -GREATEST - 1, -FAR, -LONG):
                with self.subTest(cells=cells, want=words(want)):
                    check_refused(self, NoWish, yard.resize, 0, want)
                    self.assertEqual(yard.out(), [(0, cells)])
            self.assertEqual(yard.resize(0, 1), 1)
            self.assertEqual(yard.take_back(0), 1)
            self.assertEqual(yard.free(), [(0, cells)])

    def test_not_out_is_looked_at_first(self):
        # Out: (4, 4).  Free: (0, 4), (8, 8).
        yard = Yard(16)
        yard.give(4)
        yard.give(4)
        yard.take_back(0)
        before = (yard.free(), yard.out())
        for at in (0, 1, 3, 5, 6, 7, 8, 15, 16, 20, -1, -4, -12, FAR, -FAR, LONG, -LONG):
            for want in (4, 1, 16, 0, -1, -FAR, -LONG, 17, GREATEST + 1, FAR, LONG):
                with self.subTest(at=words(at), want=words(want)):
                    check_refused(self, NotOut, yard.resize, at, want)
                    self.assertEqual((yard.free(), yard.out()), before)

    def test_no_wish_is_looked_at_ahead_of_no_room(self):
        yard = yard_of_singles(4)
        for at in range(4):
            for want in (0, -1, -FAR):
                check_refused(self, NoWish, yard.resize, at, want)
            for want in (2, 4, 5, FAR):
                check_refused(self, NoRoom, yard.resize, at, want)
        self.assertEqual(yard.out(), [(0, 1), (1, 1), (2, 1), (3, 1)])

    def test_what_got_another_size_comes_back_with_it(self):
        yard = Yard(32)
        yard.give(3)
        yard.resize(0, 16)
        self.assertEqual(yard.take_back(0), 16)
        self.assertEqual(yard.free(), [(0, 32)])
        yard.give(32)
        yard.resize(0, 2)
        self.assertEqual(yard.take_back(0), 2)
        self.assertEqual(yard.free(), [(0, 32)])


class TestOwner(unittest.TestCase):
    """The interface."""

    def test_each_cell_of_a_small_yard(self):
        yard = Yard(16)
        for want in (4, 1, 2, 8):
            yard.give(want)
        yard.resize(8, 3)
        self.assertEqual(yard.out(), [(0, 4), (4, 1), (6, 2), (8, 4)])
        owners = [yard.owner(cell) for cell in range(16)]
        self.assertEqual(owners, [0] * 4 + [4, None, 6, 6] + [8] * 4 + [None] * 4)

    def test_free_and_full_yards(self):
        for cells in (1, 2, 4, 128):
            yard = Yard(cells)
            for cell in range(-3, cells + 3):
                self.assertIsNone(yard.owner(cell))
            yard.give(cells)
            for cell in range(-3, cells + 3):
                self.assertEqual(yard.owner(cell), 0 if 0 <= cell < cells else None)

    def test_cells_that_the_yard_has_not(self):
        for cells in (1, 2, 128, 2 ** 59, GREATEST):
            for want in (1, cells):
                yard = Yard(cells)
                yard.give(want)
                beyond = (cells, cells + 1, cells * 2, cells * 2 - 1, GREATEST * 4, FAR, LONG)
                below = (-1, -2, -cells, -cells - 1, -GREATEST, -FAR, -LONG)
                for cell in beyond + below:
                    with self.subTest(cells=cells, want=want, cell=words(cell)):
                        self.assertIsNone(yard.owner(cell))

    def test_first_and_last_cells_in_a_large_yard(self):
        yard = Yard(GREATEST)
        quarter = GREATEST // 4
        yard.give(quarter)
        yard.give(quarter * 2)
        yard.give(1)
        yard.give(4)
        self.assertEqual(yard.out(), [(0, quarter), (quarter, 1), (quarter + 4, 4), (quarter * 2, quarter * 2)])
        rows = (
            (0, 0), (1, 0), (quarter - 1, 0), (quarter, quarter),
            (quarter + 1, None), (quarter + 3, None), (quarter + 4, quarter + 4),
            (quarter + 7, quarter + 4), (quarter + 8, None), (quarter * 2 - 1, None),
            (quarter * 2, quarter * 2), (GREATEST - 1, quarter * 2), (GREATEST, None),
        )
        for cell, at in rows:
            with self.subTest(cell=cell):
                self.assertEqual(yard.owner(cell), at)

    def test_asking_changes_nothing(self):
        yard = Yard(8)
        yard.give(3)
        for cell in (-1, 0, 3, 4, 8, FAR):
            yard.owner(cell)
        self.assertEqual((yard.out(), yard.free()), ([(0, 4)], [(4, 4)]))


class TestApart(unittest.TestCase):
    """Point 1: lists are the asker's own, and yards know nothing of one another."""

    def test_lists_that_are_changed_by_the_asker(self):
        for spoil in (list.clear, list.pop, list.reverse, lambda pieces: pieces.append((64, 64))):
            yard = Yard(16)
            yard.give(3)
            yard.give(1)
            for answered in (yard.free, yard.out):
                before = answered()
                spoil(answered())
                self.assertEqual(answered(), before)
            watch = Watched(self, yard, {0: 4, 4: 1})
            self.assertEqual(watch.deed("give", 1), 5)
            self.assertEqual(watch.deed("take_back", 0), 4)
            self.assertEqual(watch.deed("resize", 4, 1), 1)

    def test_lists_stay_behind_later_deeds(self):
        yard = Yard(16)
        yard.give(3)
        free, out = yard.free(), yard.out()
        yard.give(1)
        yard.resize(0, 1)
        yard.take_back(4)
        yard.free()
        yard.out()
        self.assertEqual(free, [(4, 4), (8, 8)])
        self.assertEqual(out, [(0, 4)])
        yard.take_back(0)
        self.assertEqual(out, [(0, 4)])
        self.assertEqual(free, [(4, 4), (8, 8)])

    def test_each_answer_is_a_new_list(self):
        for cells in (1, 16):
            yard = Yard(cells)
            self.assertIsNot(yard.free(), yard.free())
            self.assertIsNot(yard.out(), yard.out())

    def test_two_yards(self):
        for cells, others in ((16, 16), (16, 64), (GREATEST, 1)):
            with self.subTest(cells=cells, others=others):
                one = Yard(cells)
                other = Yard(others)
                one.give(1)
                self.assertEqual((other.out(), other.free()), ([], [(0, others)]))
                other.give(others)
                self.assertEqual(one.out(), [(0, 1)])
                one.take_back(0)
                self.assertEqual(other.out(), [(0, others)])
                self.assertEqual((one.cells, other.cells), (cells, others))
                other.take_back(0)
                self.assertEqual(one.free(), [(0, cells)])


if __name__ == "__main__":
    unittest.main()
