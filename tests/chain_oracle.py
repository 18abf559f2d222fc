"""Extreme points by their definition, point 181: weights are tried out, as many as can make a difference."""

from fractions import Fraction


def ratios_between(points):
    """Quotients c / a of weights: one between any two neighbours at which two points have the same value."""
    found = {Fraction(0)}
    for x, y in points:
        for other_x, other_y in points:
            if y != other_y and Fraction(x - other_x, y - other_y) > 0:
                found.add(Fraction(x - other_x, y - other_y))
    ordered = sorted(found)
    return [(low + high) / 2 for low, high in zip(ordered, ordered[1:])] + [ordered[-1] + 1]


def slow_chain(points):
    """The chain of a list of points, not too many."""
    distinct = sorted(set(points))
    found = set()
    for ratio in ratios_between(distinct) if distinct else []:
        values = [(x - ratio * y, (x, y)) for x, y in distinct]
        greatest = max(value for value, _ in values)
        winners = [point for value, point in values if value == greatest]
        if len(winners) == 1:
            found.add(winners[0])
    return sorted(found, key=lambda point: point[1])
