"""Points 1, 2 and 3: sizes, twins and the fitting size of a wish."""

import unittest

from buddyyard import sizes
from buddyyard.errors import NoWish
from buddyyard.sizes import MOST, is_size, size_for, twin_of

GREATEST = 1152921504606846976
FAR = 10 ** 30


def doubled():
    """Every size, each twice the one ahead, as point 1 counts them."""
    found = [1]
    while found[-1] < GREATEST:
        found.append(found[-1] * 2)
    return found


SIZES = doubled()


class TestSizes(unittest.TestCase):
    """Point 1."""

    def assert_no_size(self, number):
        # In hex, as Python writes out no very long number in decimals.
        with self.subTest(number=hex(number)):
            self.assertIs(is_size(number), False)

    def test_most(self):
        self.assertEqual(MOST, GREATEST)
        self.assertIs(type(MOST), int)
        self.assertIs(is_size(MOST), True)

    def test_each_power_of_two_up_to_the_greatest(self):
        self.assertEqual(len(SIZES), 61)
        for size in SIZES:
            with self.subTest(size=size):
                self.assertIs(is_size(size), True)

    def test_small_numbers_one_by_one(self):
        for number in range(-5000, 5000):
            with self.subTest(number=number):
                self.assertIs(is_size(number), number in SIZES)

    def test_one_less_and_one_more(self):
        for size in SIZES:
            for number in (size - 1, size + 1):
                with self.subTest(number=number):
                    self.assertIs(is_size(number), number in SIZES)

    def test_nought(self):
        self.assert_no_size(0)

    def test_below_nought(self):
        for size in SIZES + [MOST * 2, MOST * 4, 2 ** 64, FAR, 2 ** 20000]:
            self.assert_no_size(-size)
            self.assert_no_size(-size - 1)
            self.assert_no_size(-3 * size)

    def test_powers_of_two_beyond_the_greatest(self):
        for exponent in (*range(61, 200), 1000, 1024, 20000):
            self.assert_no_size(2 ** exponent)

    def test_other_numbers_beyond_the_greatest(self):
        for number in (MOST * 2 - 1, MOST * 2 + 1, MOST * 3, FAR, FAR + 1):
            self.assert_no_size(number)

    def test_only_some_halvings_with_nothing_left_over(self):
        for size in SIZES:
            for odd in (3, 5, 7, 9, 15, 31, 2 ** 31 + 1, 2 ** 53 + 1):
                self.assert_no_size(size * odd)

    def test_sums_of_two_sizes(self):
        for place, size in enumerate(SIZES):
            for other in SIZES[:place]:
                self.assert_no_size(size + other)
                if other * 2 != size:
                    self.assert_no_size(size - other)


class TestTwins(unittest.TestCase):
    """Point 2."""

    def assert_twin(self, times, size):
        at = times * size
        with self.subTest(at=at, size=size):
            twin = twin_of(at, size)
            self.assertIs(type(twin), int)
            self.assertEqual(twin, at - size if times % 2 else at + size)
            self.assertEqual(min(at, twin) % (2 * size), 0)
            self.assertEqual(twin_of(twin, size), at)

    def test_some_by_hand(self):
        rows = (
            (0, 1, 1), (1, 1, 0), (2, 1, 3), (3, 1, 2), (6, 1, 7), (7, 1, 6),
            (0, 2, 2), (2, 2, 0), (4, 2, 6), (6, 2, 4),
            (0, 4, 4), (4, 4, 0), (8, 4, 12), (12, 4, 8),
            (16, 16, 0), (32, 16, 48), (48, 16, 32),
            (3 * 2 ** 59, 2 ** 59, 2 ** 60),
        )
        for at, size, twin in rows:
            with self.subTest(at=at, size=size):
                self.assertEqual(twin_of(at, size), twin)

    def test_the_twin_of_a_whole_yard_lies_outside_of_it(self):
        for size in SIZES:
            with self.subTest(size=size):
                self.assertEqual(twin_of(0, size), size)

    def test_every_size_at_the_first_multiples(self):
        for size in SIZES:
            for times in range(70):
                self.assert_twin(times, size)

    def test_every_size_around_powers_of_two(self):
        for size in SIZES:
            for exponent in range(7, 101):
                for times in (2 ** exponent - 1, 2 ** exponent, 2 ** exponent + 1):
                    self.assert_twin(times, size)

    def test_every_size_at_far_places(self):
        for size in SIZES:
            for far in (FAR // size, FAR, FAR * FAR):
                for times in range(far - 4, far + 5):
                    self.assert_twin(times, size)


class TestFittingSize(unittest.TestCase):
    """Point 3."""

    def assert_fits(self, want):
        with self.subTest(want=want):
            size = size_for(want)
            self.assertIs(type(size), int)
            self.assertIn(size, SIZES)
            self.assertGreaterEqual(size, want)
            self.assertLess(size, want * 2)

    def assert_refused(self, want):
        with self.subTest(bits=want.bit_length(), below=want < 1):
            with self.assertRaises(NoWish):
                size_for(want)

    def test_some_by_hand(self):
        rows = (
            (1, 1), (2, 2), (3, 4), (4, 4), (5, 8), (6, 8), (7, 8), (8, 8), (9, 16),
            (1000, 1024), (1024, 1024), (1025, 2048),
            (2 ** 59 + 1, GREATEST), (GREATEST - 1, GREATEST), (GREATEST, GREATEST),
        )
        for want, size in rows:
            with self.subTest(want=want):
                self.assertEqual(size_for(want), size)

    def test_small_wishes_one_by_one(self):
        for want in range(1, 5000):
            self.assert_fits(want)

    def test_a_size_fits_itself(self):
        for size in SIZES:
            with self.subTest(size=size):
                self.assertEqual(size_for(size), size)

    def test_around_each_size(self):
        for size in SIZES:
            for want in (size - 1, size, size + 1, size + size // 2):
                if 1 <= want <= MOST:
                    self.assert_fits(want)

    def test_nought_and_below_are_refused(self):
        for want in range(-200, 1):
            self.assert_refused(want)
        for size in SIZES:
            for want in (-size - 1, -size, -size + 1):
                if want < 1:
                    self.assert_refused(want)
        for want in (-2 ** 61, -FAR, -(10 ** 5000)):
            self.assert_refused(want)

    def test_more_than_the_greatest_size_is_refused(self):
        wishes = (MOST + 1, MOST + 2, MOST * 2 - 1, MOST * 2, MOST * 2 + 1, 2 ** 62, 2 ** 63,
                  2 ** 64, 2 ** 64 + 1, FAR, FAR * FAR, 2 ** 20000)
        for want in wishes:
            self.assert_refused(want)

    def test_a_wish_too_long_to_be_written_out_is_refused_too(self):
        self.assert_refused(10 ** 5000)


class TestHome(unittest.TestCase):
    def test_each_name_is_defined_in_its_file(self):
        for name in ("is_size", "size_for", "twin_of"):
            with self.subTest(name=name):
                self.assertEqual(getattr(sizes, name).__module__, "buddyyard.sizes")


if __name__ == "__main__":
    unittest.main()
