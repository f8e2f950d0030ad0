"""The error classes of the interface: who takes whom."""

import unittest

from buddyyard import errors

KINDS = (errors.NoYard, errors.NoWish, errors.NoRoom, errors.NotOut, errors.NoNote)


def taken(raised, caught):
    """Whether `except caught` takes an error of the class `raised`."""
    try:
        try:
            raise raised("some words")
        except caught:
            return True
    except Exception:
        return False


class TestErrors(unittest.TestCase):
    def test_each_of_the_five_is_a_yard_error_and_a_value_error(self):
        for kind in KINDS:
            with self.subTest(kind=kind):
                self.assertTrue(taken(kind, kind))
                self.assertTrue(taken(kind, errors.YardError))
                self.assertTrue(taken(kind, ValueError))

    def test_none_of_the_five_is_taken_for_another(self):
        for kind in KINDS:
            for other in KINDS:
                if other is not kind:
                    with self.subTest(kind=kind, other=other):
                        self.assertFalse(taken(kind, other))

    def test_any_refusal_is_a_value_error_and_none_of_the_five(self):
        self.assertTrue(taken(errors.YardError, errors.YardError))
        self.assertTrue(taken(errors.YardError, ValueError))
        for kind in KINDS:
            with self.subTest(kind=kind):
                self.assertFalse(taken(errors.YardError, kind))

    def test_a_plain_value_error_is_no_refusal(self):
        for kind in (errors.YardError, *KINDS):
            with self.subTest(kind=kind):
                self.assertFalse(taken(ValueError, kind))

    def test_names_and_home(self):
        names = ("YardError", "NoYard", "NoWish", "NoRoom", "NotOut", "NoNote")
        for name, kind in zip(names, (errors.YardError, *KINDS)):
            with self.subTest(name=name):
                self.assertEqual(kind.__name__, name)
                self.assertEqual(kind.__module__, "buddyyard.errors")


if __name__ == "__main__":
    unittest.main()
