"""Points, and chains: those points of a list that have the greatest value for some weights."""


def point_value(point, a, c):
    """Return the value of a point for the weights a and c."""
    x, y = point
    return a * x - c * y


def best(points, a, c):
    """Return the greatest value of the points of a list that is not empty."""
    return max([point_value(point, a, c) for point in points])


def chain(points):
    """Return the list of the extreme points of a list, each once, by ascending y."""
    found = []
    for y, negative_x in sorted([(y, -x) for x, y in points]):
        point = (-negative_x, y)
        # Sorted like this, a point whose x is not greater has a point before it that is at least as good.
        if not found or point[0] > found[-1][0]:
            while len(found) > 1 and not bends(found[-2], found[-1], point):
                found.pop()
            found.append(point)
    return found


def bends(before, middle, behind):
    """Tell whether the middle one of three points has for some weights a greater value than both others.

    Both coordinates become greater from each point to the next.
    """
    first = (middle[0] - before[0]) * (behind[1] - middle[1])
    second = (behind[0] - middle[0]) * (middle[1] - before[1])
    return first > second


def sum_chain(first, second):
    """Return the chain of all sums of a point of the first list and a point of the second one."""
    left = chain(first)
    right = chain(second)
    return chain([(x + other_x, y + other_y) for x, y in left for other_x, other_y in right])


def multiple_chain(points, least, greatest):
    """Return the chain of all multiples of the points by the integers from the least to the greatest one."""
    ends = chain(points)
    return chain([(number * x, number * y) for number in [least, greatest] for x, y in ends])
