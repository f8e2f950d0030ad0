"""Point 8: many wishes at once, all of them or none."""

import itertools
import unittest

from buddyyard import many
from buddyyard.errors import NoRoom, NoWish
from buddyyard.many import give_all
from buddyyard.yard import Yard

from plain import (FAR, GREATEST, KINDS, LONG, Numbers, PlainYard, Watched, check_pieces,
                   check_refused, fitting, outcome, states, words, yard_with)


def pieces_of(yard):
    return (yard.free(), yard.out())


def can_be_laid(given, cells, sizes, known):
    """Whether pieces of these sizes lie, in any way, in cells that are not out."""
    owned = frozenset(cell for at, size in given for cell in range(at, at + size))
    key = (owned, tuple(sorted(sizes)))
    if key not in known:
        known[key] = not sizes or any(
            can_be_laid(given + [(at, sizes[0])], cells, sizes[1:], known)
            for at in range(0, cells, sizes[0])
            if at + sizes[0] <= cells and not owned.intersection(range(at, at + sizes[0]))
        )
    return known[key]


class TestGiveAll(unittest.TestCase):
    def check_granted(self, yard, wants, places):
        """Granted with these places; the list that was handed in stays as it is."""
        handed = list(wants)
        before = dict(yard.out())
        answer = give_all(yard, handed)
        self.assertIs(type(answer), list)
        self.assertEqual(answer, places)
        self.assertEqual(handed, wants)
        given = {at: fitting(want) for at, want in zip(places, wants)}
        self.assertEqual(yard.out(), sorted({**before, **given}.items()))
        check_pieces(self, yard)

    def check_all_refused(self, yard, kind, wants):
        """Refused; the yard and the list that was handed in stay as they are."""
        handed = list(wants)
        before = pieces_of(yard)
        check_refused(self, kind, give_all, yard, handed)
        self.assertEqual(pieces_of(yard), before)
        self.assertEqual(handed, wants)

    def test_home(self):
        self.assertEqual(many.give_all.__module__, "buddyyard.many")

    def test_no_wishes(self):
        for cells in (1, 16, GREATEST):
            for want in (1, cells):
                yard = Yard(cells)
                self.check_granted(yard, [], [])
                yard.give(want)
                self.check_granted(yard, [], [])

    def test_one_wish_is_as_give(self):
        for given in states(8):
            for want in range(-1, 10):
                yard, other = yard_with(8, given), yard_with(8, given)
                answer = outcome(give_all, yard, [want])
                place = outcome(other.give, want)
                self.assertEqual(answer, place if place in KINDS else [place])
                self.assertEqual(pieces_of(yard), pieces_of(other))

    def test_the_greatest_fitting_size_first(self):
        self.check_granted(Yard(16), [1, 2, 4, 8], [14, 12, 8, 0])
        self.check_granted(Yard(16), [8, 4, 2, 1], [0, 8, 12, 14])
        self.check_granted(Yard(16), [2, 8, 1, 4], [12, 0, 14, 8])
        self.check_granted(Yard(32), [1, 16, 1, 3], [20, 0, 21, 16])

    def test_equal_fitting_sizes_as_they_stand(self):
        self.check_granted(Yard(16), [3, 4, 3], [0, 4, 8])
        self.check_granted(Yard(64), [5, 8, 6, 7], [0, 8, 16, 24])
        self.check_granted(Yard(64), [5, 9, 8, 16, 6], [32, 0, 40, 16, 48])
        self.check_granted(Yard(8), [1, 1, 1], [0, 1, 2])

    def test_in_a_yard_of_which_some_is_out(self):
        # Free: (0, 4), (5, 1), (6, 2), (8, 8).
        yard = Yard(16)
        yard.give(4)
        yard.give(1)
        yard.take_back(0)
        self.assertEqual(yard.free(), [(0, 4), (5, 1), (6, 2), (8, 8)])
        self.check_granted(yard, [1, 2, 8, 3], [5, 6, 8, 0])

    def test_many_alike(self):
        for want, many_wants in ((1, 128), (2, 150), (3, 200), (8, 100)):
            size = fitting(want)
            cells = fitting(size * many_wants)
            places = [turn * size for turn in range(many_wants)]
            with self.subTest(want=want):
                self.check_granted(Yard(cells), [want] * many_wants, places)
                large = Yard(GREATEST)
                self.check_granted(large, [want] * many_wants, places)
                self.assertEqual(large.owner(size * many_wants - 1), places[-1])

    def test_filled_to_the_last_cell_in_any_order(self):
        for wants in ([1, 1, 2, 4, 8], [3, 3, 2, 2, 4], [1, 1, 1, 1, 3, 6], [5, 2, 1, 1, 4], [2, 2, 4, 7]):
            for order in itertools.permutations(wants):
                yard = Yard(16)
                handed = list(order)
                places = give_all(yard, handed)
                self.assertEqual(handed, list(order))
                self.assertEqual(yard.free(), [])
                laid = sorted((at, fitting(want)) for at, want in zip(places, order))
                self.assertEqual(yard.out(), laid)
                check_pieces(self, yard)

    def test_a_large_yard_filled_to_the_last_cell(self):
        wants = [1] + [2 ** exponent for exponent in range(60)]
        for order in (wants, wants[::-1], Numbers(1).mixed(wants)):
            yard = Yard(GREATEST)
            places = give_all(yard, order)
            self.assertEqual(yard.free(), [])
            self.assertEqual(yard.out(), sorted(zip(places, order)))
            check_pieces(self, yard)
            self.check_all_refused(yard, NoRoom, [1])

    def test_one_that_is_too_many(self):
        rows = (
            (1, [1, 1]), (2, [1, 1, 1]), (2, [2, 1]), (4, [3, 1]), (4, [1, 3]),
            (16, [1, 1, 2, 4, 8, 1]), (16, [1, 8, 8]), (16, [4] * 5), (16, [1] * 17),
            (128, [1] * 129), (256, [3] * 65), (GREATEST, [GREATEST, 1]),
            (GREATEST, [1, GREATEST // 2, GREATEST // 2]), (GREATEST, [2 ** 59 + 1, 1]),
        )
        for cells, wants in rows:
            with self.subTest(cells=cells, many=len(wants)):
                self.check_all_refused(Yard(cells), NoRoom, wants)

    def test_refused_in_a_yard_of_which_some_is_out(self):
        # Free: (0, 4), (5, 1), (6, 2), (8, 8).
        yard = Yard(16)
        yard.give(4)
        yard.give(1)
        yard.take_back(0)
        for wants in ([8, 4, 2, 1, 1], [1, 8, 8], [4, 4, 4, 4], [2] * 8, [1] * 16, [16], [1, 9]):
            with self.subTest(wants=wants):
                self.check_all_refused(yard, NoRoom, wants)
        watch = Watched(self, yard, {4: 1})
        self.assertEqual(watch.deed("give", 1), 5)
        self.assertEqual(watch.deed("give", 2), 6)

    def test_more_than_the_yard_has(self):
        for cells in (1, 2, 128, 2 ** 59, GREATEST):
            for want in (cells + 1, cells * 2, GREATEST + 1, GREATEST * 2, 2 ** 64, FAR, LONG):
                for wants in ([want], [1, want], [want, 1], [want, want], [cells, want, cells]):
                    with self.subTest(cells=cells, want=words(want), many=len(wants)):
                        self.check_all_refused(Yard(cells), NoRoom, wants)

    def test_below_one_ahead_of_all_else(self):
        for cells in (1, 2, 128, GREATEST):
            for bad in (0, -1, -cells, -GREATEST - 1, -FAR, -LONG):
                rows = ([bad], [1, bad], [bad, 1], [bad, bad], [cells + 1, bad], [bad, cells + 1],
                        [cells, cells, bad], [bad, cells, cells], [FAR, bad], [bad, LONG],
                        [1, 1, bad, 1], [LONG, 1, bad])
                for wants in rows:
                    with self.subTest(cells=cells, bad=words(bad), many=len(wants)):
                        self.check_all_refused(Yard(cells), NoWish, wants)
                        full = Yard(cells)
                        full.give(cells)
                        self.check_all_refused(full, NoWish, wants)

    def test_the_answer_is_the_askers_own(self):
        yard = Yard(16)
        places = give_all(yard, [2, 4])
        places.append(99)
        places[0] = 99
        self.assertEqual(yard.out(), [(0, 4), (4, 2)])
        again = give_all(yard, [2])
        yard.take_back(6)
        yard.take_back(0)
        self.assertEqual(again, [6])
        self.assertEqual(places, [99, 0, 99])
        wants = [1, 2]
        self.assertIsNot(give_all(Yard(16), wants), wants)
        self.assertIsNot(give_all(Yard(1), []), give_all(Yard(1), []))

    def test_another_yard_stays_as_it_is(self):
        one, other = Yard(16), Yard(16)
        give_all(one, [1, 2, 3])
        self.assertEqual(pieces_of(other), ([(0, 16)], []))

    def test_in_every_state_refused_only_where_they_cannot_be_laid(self):
        known = {}
        lists = [list(wants) for many_wants in (2, 3, 4)
                 for wants in itertools.combinations_with_replacement((1, 2, 3, 8), many_wants)]
        for given in states(8):
            for wants in lists:
                yard = yard_with(8, given)
                before = pieces_of(yard)
                answer = outcome(give_all, yard, wants)
                sizes = [fitting(want) for want in wants]
                laid = can_be_laid(sorted(given.items()), 8, sizes, known)
                self.assertEqual(answer is NoRoom, not laid, (given, wants))
                if answer is NoRoom:
                    self.assertEqual(pieces_of(yard), before)

    def test_long_runs(self):
        for cells in (1, 8, 32, 128, 1024, 2 ** 20, GREATEST):
            for seed in range(3):
                with self.subTest(cells=cells, seed=seed):
                    self.run_of_lists(cells, Numbers(seed + cells))

    def run_of_lists(self, cells, numbers):
        yard, plain = Yard(cells), PlainYard(cells)
        for _ in range(80):
            most = 1 + (cells >> numbers.below(cells.bit_length()))
            wants = [numbers.below(most) + (numbers.below(20) > 0) for _ in range(numbers.below(9))]
            handed = list(wants)
            before = pieces_of(yard)
            answer = outcome(give_all, yard, handed)
            self.assertEqual(answer, plain.give_all(wants), wants)
            self.assertEqual(handed, wants)
            if answer in KINDS:
                self.assertEqual(pieces_of(yard), before)
            self.assertEqual(pieces_of(yard), (plain.free(), plain.out()))
            check_pieces(self, yard)
            for at in list(plain.given):
                if numbers.below(3) == 0:
                    self.assertEqual(yard.take_back(at), plain.take_back(at))


if __name__ == "__main__":
    unittest.main()
