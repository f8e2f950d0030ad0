"""Many wishes at once: all are granted, or none."""

from buddyyard.errors import NoRoom, NoWish
from buddyyard.sizes import size_for


def fitting_sizes(yard, wants):
    """The fitting sizes of the wishes; NoWish below 1, else NoRoom beyond the yard's cells."""
    if any([want < 1 for want in wants]):
        raise NoWish("a wish is below 1")
    if any([want > yard.cells for want in wants]):
        raise NoRoom("a wish is for more cells than the yard has")
    return [size_for(want) for want in wants]


def give_all(yard, wants):
    """Grant all wishes, the greatest fitting size first, or none; where the pieces begin."""
    sizes = fitting_sizes(yard, wants)
    # Sorting keeps equal sizes in the order in which they stand.
    order = sorted(range(len(sizes)), key=lambda k: -sizes[k])
    places = {}
    try:
        for turn in order:
            places[turn] = yard.give(sizes[turn])
    except NoRoom:
        # What is free depends on what is out alone, in whatever order it came
        # about: so the yard is as it was.
        for at in places.values():
            yard.take_back(at)
        raise
    return [places[turn] for turn in range(len(sizes))]
