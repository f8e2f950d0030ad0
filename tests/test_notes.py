"""Point 9: a yard shown as a text and read from one."""

import unittest

from buddyyard import notes
from buddyyard.errors import NoNote
from buddyyard.many import give_all
from buddyyard.notes import read, shown
from buddyyard.yard import Yard

from plain import (GREATEST, Numbers, Watched, check_refused, outcome, states, watched, yard_with)

HALF = GREATEST // 2
GOOD = "0 4 out\n4 1 out\n5 1 free\n6 2 free\n8 8 out"
ROWS = GOOD.split("\n")


def text_of(given, free):
    """The text of point 9, from the pieces that are out and those that are free."""
    rows = sorted([(at, size, "out") for at, size in given] + [(at, size, "free") for at, size in free])
    return "\n".join(" ".join((str(at), str(size), state)) for at, size, state in rows)


class TestShown(unittest.TestCase):
    def test_home(self):
        self.assertEqual(shown.__module__, "buddyyard.notes")
        self.assertEqual(read.__module__, "buddyyard.notes")
        self.assertIs(notes.shown, shown)

    def test_new_yards(self):
        for exponent in range(61):
            self.assertEqual(shown(Yard(2 ** exponent)), "0 " + str(2 ** exponent) + " free")

    def test_full_yards(self):
        for cells in (1, 2, 128, 2 ** 59, GREATEST):
            yard = Yard(cells)
            yard.give(cells)
            self.assertEqual(shown(yard), "0 " + str(cells) + " out")
        yard = Yard(4)
        give_all(yard, [1, 2, 1])
        self.assertEqual(shown(yard), "0 2 out\n2 1 out\n3 1 out")

    def test_mixed_yards(self):
        yard = Yard(16)
        yard.give(3)
        self.assertEqual(shown(yard), "0 4 out\n4 4 free\n8 8 free")
        yard.give(1)
        yard.give(8)
        self.assertEqual(shown(yard), GOOD)
        yard.take_back(0)
        self.assertEqual(shown(yard), "0 4 free\n4 1 out\n5 1 free\n6 2 free\n8 8 out")

    def test_by_rising_places_as_numbers(self):
        yard = Yard(16)
        for _ in range(16):
            yard.give(1)
        yard.take_back(2)
        yard.take_back(10)
        rows = [str(cell) + " 1 " + ("free" if cell in (2, 10) else "out") for cell in range(16)]
        self.assertEqual(shown(yard), "\n".join(rows))

    def test_the_greatest_yard(self):
        yard = Yard(GREATEST)
        yard.give(HALF)
        yard.give(HALF)
        yard.take_back(0)
        self.assertEqual(shown(yard), "0 576460752303423488 free\n576460752303423488 576460752303423488 out")

    def test_showing_changes_nothing(self):
        yard = Yard(16)
        yard.give(3)
        self.assertEqual(shown(yard), shown(yard))
        self.assertEqual((yard.out(), yard.free()), ([(0, 4)], [(4, 4), (8, 8)]))

    def test_every_state_of_a_small_yard(self):
        for cells in (1, 2, 4, 8):
            for given in states(cells):
                yard = yard_with(cells, given)
                self.assertEqual(shown(yard), text_of(yard.out(), yard.free()))


class TestRead(unittest.TestCase):
    def check_read(self, text):
        """Read, with just the pieces of the text; the yard."""
        yard = read(text)
        self.assertIs(type(yard), Yard)
        self.assertEqual(shown(yard), text)
        rows = [row.split() for row in text.split("\n")]
        pieces = [(int(at), int(size), state) for at, size, state in rows]
        self.assertEqual(yard.out(), [(at, size) for at, size, state in pieces if state == "out"])
        self.assertEqual(yard.free(), [(at, size) for at, size, state in pieces if state == "free"])
        self.assertEqual(yard.cells, sum(size for _, size, _ in pieces))
        return yard

    def test_some_by_hand(self):
        texts = (
            GOOD, "0 1 free", "0 1 out", "0 128 free", "0 2 out", "0 1 out\n1 1 free",
            "0 1 free\n1 1 out", "0 1 out\n1 1 out", "0 2 free\n2 1 free\n3 1 out",
            "0 1 out\n1 1 free\n2 1 free\n3 1 out", "0 2 out\n2 2 free\n4 2 free\n6 2 out",
            "0 8 free\n8 4 free\n12 2 free\n14 1 free\n15 1 out",
            "0 1152921504606846976 free", "0 1152921504606846976 out",
            "0 576460752303423488 out\n576460752303423488 576460752303423488 free",
        )
        for text in texts:
            with self.subTest(text=text):
                self.check_read(text)

    def test_every_yard_of_each_size(self):
        for exponent in range(61):
            for state in ("free", "out"):
                self.check_read("0 " + str(2 ** exponent) + " " + state)

    def test_every_state_of_a_small_yard_and_every_deed_then(self):
        for cells in (1, 2, 4, 8):
            for given in states(cells):
                text = shown(yard_with(cells, given))
                self.check_read(text)
                for want in range(0, cells + 1):
                    Watched(self, read(text), given).deed("give", want)
                for at in range(cells):
                    Watched(self, read(text), given).deed("take_back", at)
                    Watched(self, read(text), given).deed("resize", at, 2)

    def test_the_same_deeds_in_both_yards(self):
        for cells in (1, 16, 128, 1024, 2 ** 20, 2 ** 59, GREATEST):
            with self.subTest(cells=cells):
                numbers = Numbers(cells)
                yard = Yard(cells)
                for _ in range(60):
                    self.some_deed(yard, numbers)
                    both = (self.check_read(shown(yard)), yard)
                    for other in range(5):
                        seed = numbers.below(10 ** 6) + other
                        one, two = [self.some_deed(each, Numbers(seed)) for each in both]
                        self.assertEqual(one, two)
                        self.assertEqual(shown(both[0]), shown(both[1]))
                        self.assertEqual(both[0].cells, cells)

    def some_deed(self, yard, numbers):
        want = numbers.one_of((1, 2, 3, 5, 9, 0, max(1, yard.cells >> numbers.below(9)), yard.cells + 1))
        at = numbers.one_of([begin for begin, _ in yard.out()] + [numbers.below(yard.cells)])
        wants = [1 + numbers.below(5) for _ in range(numbers.below(4))]
        deed = numbers.below(7)
        if deed < 2:
            return outcome(yard.give, want)
        if deed < 4:
            return outcome(yard.take_back, at)
        if deed == 4:
            return outcome(yard.resize, at, want)
        if deed == 5:
            return outcome(give_all, yard, wants)
        return yard.owner(at)

    def test_all_that_is_read_comes_back(self):
        numbers = Numbers(8)
        for cells in (16, 1024, GREATEST):
            watch = watched(self, cells)
            for _ in range(50):
                watch.deed("give", 1 + numbers.below(9))
                watch.deed("take_back", numbers.one_of(list(watch.plain.given) + [0]))
            again = Watched(self, read(shown(watch.yard)), watch.plain.given)
            again.all_back(numbers.mixed(again.plain.given))

    def test_two_yards_that_are_read(self):
        one, two = read(GOOD), read(GOOD)
        one.take_back(8)
        self.assertEqual(shown(two), GOOD)
        self.assertEqual(one.free(), [(5, 1), (6, 2), (8, 8)])


class TestNoNote(unittest.TestCase):
    def check_none(self, text):
        with self.subTest(text=text[:80]):
            check_refused(self, NoNote, read, text)

    def check_row_none(self, old, new):
        """GOOD shows no yard when one row stands otherwise."""
        self.assertIn(old, ROWS)
        self.check_none("\n".join(new if row == old else row for row in ROWS))

    def test_good_is_good(self):
        self.assertEqual(shown(read(GOOD)), GOOD)

    def test_nothing(self):
        for text in ("", "\n", "\n\n", " ", "  ", "\t", " \n "):
            self.check_none(text)

    def test_a_row_less(self):
        # Without its last row GOOD is a yard of eight cells.
        for place in range(len(ROWS) - 1):
            self.check_none("\n".join(ROWS[:place] + ROWS[place + 1:]))
        for many in range(2, len(ROWS) - 1):
            self.check_none("\n".join(ROWS[:many]))
            self.check_none("\n".join(ROWS[many:]))

    def test_a_row_twice(self):
        for place in range(len(ROWS)):
            self.check_none("\n".join(ROWS[:place] + [ROWS[place]] + ROWS[place:]))
            self.check_none("\n".join(ROWS + [ROWS[place]]))
        for row in ("0 1 out", "0 1 free", "0 1152921504606846976 out"):
            self.check_none(row + "\n" + row)

    def test_a_row_of_nothing(self):
        for place in range(len(ROWS) + 1):
            for nothing in ("", " ", "\t", "  "):
                self.check_none("\n".join(ROWS[:place] + [nothing] + ROWS[place:]))
        for text in ("\n0 1 out", "0 1 out\n", "0 1 out\n\n1 1 out", "0 1 out\n\n"):
            self.check_none(text)

    def test_rows_turned_about(self):
        for place in range(len(ROWS)):
            for other in range(place):
                rows = list(ROWS)
                rows[place], rows[other] = rows[other], rows[place]
                self.check_none("\n".join(rows))
        self.check_none("\n".join(ROWS[::-1]))

    def test_rows_that_are_parted_otherwise(self):
        for between in (" ", "", "\t", ",", ";", "\n ", " \n", "\t\n", "\\n"):
            self.check_none(between.join(ROWS))

    def test_signs_and_noughts_ahead_of_a_number(self):
        for ahead in ("0", "00", "+", "-", "0x", "_", "0_", ".", "0b"):
            for row in ROWS:
                at, size, state = row.split(" ")
                self.check_row_none(row, ahead + at + " " + size + " " + state)
                self.check_row_none(row, at + " " + ahead + size + " " + state)

    def test_noughts_of_another_form(self):
        for nought in ("00", "000", "-0", "+0", "0.0", "0x0", "o", "O", "", "0_0", "0e0"):
            self.check_row_none("0 4 out", nought + " 4 out")
            self.check_none(nought + " 1 free")

    def test_numbers_of_another_form(self):
        for size in ("1.0", "1_", "1e0", "0x1", "1L", "one", "I", "1,", "1;", "(1)", "'1'", "1.", "$1", ""):
            self.check_none("0 " + size + " out")
            self.check_none("0 " + size + " free")
            self.check_row_none("4 1 out", "4 " + size + " out")
        for at in ("4.0", "4_", "4e0", "0x4", "four", "4,", "nought", "", "1_0"):
            self.check_row_none("4 1 out", at + " 1 out")
        self.check_none("0 1_6 out")
        self.check_none("0 1_024 free")

    def test_blanks_and_tabs(self):
        for row in ROWS:
            at, size, state = row.split(" ")
            rows = (
                at + "  " + size + " " + state, at + " " + size + "  " + state,
                at + "\t" + size + " " + state, at + " " + size + "\t" + state,
                at + " \t" + size + " " + state, at + "\t " + size + " " + state,
                " " + row, row + " ", "\t" + row, row + "\t", " " + row + " ", "  " + row, row + "  ",
                at + size + " " + state, at + " " + size + state, at + size + state,
            )
            for new in rows:
                self.check_row_none(row, new)

    def test_great_letters_and_other_words(self):
        for row in ROWS:
            at, size, state = row.split(" ")
            for word in ("OUT", "FREE", "Out", "Free", "oUt", "freE", "ou", "fre", "outs", "freed", "o",
                         "f", "in", "used", "taken", "0", "1", "", "out.", "out,", "'out'", "out,free",
                         "outfree", "out\tfree", "not", "None", "True"):
                self.check_row_none(row, at + " " + size + " " + word)

    def test_a_word_more_or_less(self):
        for row in ROWS:
            at, size, state = row.split(" ")
            rows = (
                at, size, state, at + " " + size, size + " " + state, at + " " + state,
                row + " " + state, row + " 0", "0 " + row, at + " " + row, row + " #", "- " + row,
                at + " " + size + " " + size + " " + state, row + " out", row + " free",
            )
            for new in rows:
                self.check_row_none(row, new)

    def test_words_turned_about(self):
        for text in ("out 0 1", "0 out 1", "free 0 1", "1 0 out", "1 0 free", "out free 1"):
            self.check_none(text)

    def test_sizes_that_are_none(self):
        sizes = (0, 3, 5, 6, 7, 9, 12, GREATEST - 1, GREATEST + 1, 2 ** 61, 2 ** 62, 2 ** 63, 2 ** 64,
                 3 * 2 ** 59, 9999999999999999999, 10 ** 19, 10 ** 20, 10 ** 30)
        for size in sizes:
            for state in ("out", "free"):
                self.check_none("0 " + str(size) + " " + state)
        self.check_none("0 3 out\n3 1 out")
        self.check_none("0 1 out\n1 3 out")
        self.check_none("0 1 out\n1 0 out\n1 1 out")
        self.check_none("0 0 free\n0 4 out")
        self.check_none("0 4 out\n4 0 free")

    def test_places_that_are_no_multiple(self):
        texts = (
            "0 1 out\n1 2 out\n3 1 out", "0 1 out\n1 2 free\n3 1 out", "0 2 out\n2 4 out\n6 2 out",
            "0 1 out\n1 1 out\n2 4 out\n6 2 out", "0 1 out\n1 1 free\n2 4 free\n6 2 free",
            "0 4 out\n4 8 free\n12 4 out", "0 1 out\n1 4 out\n5 1 out\n6 2 out",
        )
        for text in texts:
            self.check_none(text)

    def test_not_side_by_side_from_nought_on(self):
        texts = (
            "1 1 out", "1 1 free", "8 8 out", "16 16 free", "2 2 out\n4 4 out",
            "0 1 out\n2 1 out", "0 1 out\n2 2 out\n4 4 out", "0 2 out\n0 2 out", "0 2 out\n1 1 out\n2 2 out",
            "0 2 out\n1 1 out\n3 1 out", "0 4 out\n2 2 out\n4 4 out", "1 1 out\n0 1 out",
            "0 4 out\n4 1 out\n6 2 out\n8 8 out",
            "0 1152921504606846976 out\n0 1152921504606846976 out",
        )
        for text in texts:
            self.check_none(text)

    def test_free_twins(self):
        texts = (
            "0 1 free\n1 1 free", "0 8 free\n8 8 free", "0 1 out\n1 1 out\n2 1 free\n3 1 free",
            "0 2 out\n2 1 free\n3 1 free", "0 2 free\n2 2 free\n4 4 out", "0 4 out\n4 2 free\n6 2 free",
            "0 1 free\n1 1 free\n2 2 free", "0 2 free\n2 1 free\n3 1 free",
            "0 1 free\n1 1 free\n2 1 free\n3 1 free",
            "0 1 out\n1 1 free\n2 1 free\n3 1 free",
            "0 576460752303423488 free\n576460752303423488 576460752303423488 free",
        )
        for text in texts:
            self.check_none(text)

    def test_together_no_size(self):
        texts = (
            "0 1 out\n1 1 out\n2 1 out", "0 2 out\n2 1 free", "0 2 free\n2 1 out", "0 4 out\n4 1 out",
            "0 4 out\n4 1 out\n5 1 free\n6 2 free\n8 4 out", "0 8 out\n8 4 out", "0 1 free\n1 1 out\n2 1 free",
            "0 1152921504606846976 out\n1152921504606846976 1152921504606846976 out",
            "0 1152921504606846976 out\n1152921504606846976 1152921504606846976 free",
            "0 1152921504606846976 free\n1152921504606846976 1 out",
            "0 1152921504606846976 out\n1152921504606846976 1 out",
        )
        for text in texts:
            self.check_none(text)

    def test_long_numbers(self):
        for figures in (19, 20, 21, 100, 4299, 4300, 4301, 5000, 20000):
            for number in ("1" + "0" * (figures - 1), "9" * figures, "0" * figures, "0" * (figures - 1) + "1"):
                self.check_none("0 " + number + " out")
                self.check_none("0 " + number + " free")
                self.check_none(number + " 1 out")
                self.check_none(number + " " + number + " free")
                self.check_none("0 1 out\n" + number + " 1 out")
                self.check_none("0 1 out\n1 " + number + " out")
                self.check_none("0 1 " + number)
                self.check_none("0 -" + number + " out")

    def test_any_one_sign_more_or_less(self):
        signs = [chr(sign) for sign in range(32, 127)] + ["\t", "\n"]
        good = {shown(yard_with(cells, given)) for cells in (1, 2, 4, 8) for given in states(cells)}
        for text in ("0 1 out", "0 2 free\n2 2 out", "0 1 out\n1 1 free\n2 2 free"):
            for place in range(len(text) + 1):
                changed = [text[:place] + text[place + 1:]]
                for sign in signs:
                    changed += [text[:place] + sign + text[place:], text[:place] + sign + text[place + 1:]]
                for other in changed:
                    self.check_as_in(other, good)

    def check_as_in(self, text, good):
        """Read where it is one of the good texts or a yard of 16 cells and more, else refused."""
        answer = outcome(read, text)
        if answer is NoNote:
            self.assertNotIn(text, good)
        else:
            self.assertEqual(shown(answer), text)
            self.assertTrue(text in good or answer.cells > 8)

    def test_other_texts(self):
        texts = (
            "0", "out", "free", "0 free", "1 free", "yard", "0 1 out # all", "[(0, 1)]", "0,1,out", "0:1:out",
            "0 1 out;", "AT SIZE out", "AT SIZE free", "`0 1 out`", "- 0 1 out", "0 1 out\\n1 1 out",
        )
        for text in texts:
            self.check_none(text)


if __name__ == "__main__":
    unittest.main()
