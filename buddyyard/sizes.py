"""What a size is, which size fits a wish, and where the twin of a piece lies."""

from buddyyard.errors import NoWish

MOST = 2 ** 60


def is_size(number):
    """True where a whole number is a size: a power of two from 1 to MOST."""
    # Less one, a power of two has none of its bits in common with itself;
    # every other number from 1 on keeps its highest bit.
    return 1 <= number <= MOST and (number & (number - 1)) == 0


def size_for(want):
    """The least size that is no less than the wish; NoWish below 1 or above MOST."""
    if want < 1 or want > MOST:
        # The number is not written out: Python fails to do that for a very long one.
        raise NoWish("a wish is a whole number from 1 to the greatest size")
    return 1 << (want - 1).bit_length()


def twin_of(at, size):
    """The place at which the twin of the piece (at, size) begins."""
    # The bit that is the size tells whether the place is an even or an odd
    # multiple of it; an even one has its twin behind, an odd one ahead.
    return at ^ size
