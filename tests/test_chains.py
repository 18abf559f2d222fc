"""Tests of bytebridge.chains: points 180 to 185, and its section of the interface."""

import copy
import random
import unittest

from bytebridge.chains import best, chain, multiple_chain, point_value, sum_chain
from chain_oracle import slow_chain

FAR = 1000000


def sums(first, second):
    return [(x + u, y + v) for x, y in first for u, v in second]


def multiples(points, least, greatest):
    return [(k * x, k * y) for x, y in points for k in range(least, greatest + 1)]


def random_points(rng, many, most):
    return [(rng.randint(0, most), rng.randint(0, most)) for _ in range(many)]


def staircase(rng, many):
    """Points with ascending coordinates whose quotients become smaller from step to step, all of them extreme."""
    steps = set()
    while len(steps) < many:
        steps.add((rng.randint(1, 60), rng.randint(1, 60)))
    x, y = rng.randint(0, 5), rng.randint(0, 5)
    found = [(x, y)]
    done = []
    for dx, dy in sorted(steps, key=lambda step: -step[0] / step[1]):
        if all(dx * other_y != dy * other_x for other_x, other_y in done):
            x, y = x + dx, y + dy
            found.append((x, y))
            done.append((dx, dy))
    return found


class ValueTest(unittest.TestCase):
    def test_values(self):
        for point, a, c, value in [((0, 0), 1, 1, 0), ((3, 5), 1, 1, -2), ((3, 5), 2, 1, 1), ((3, 5), 1, 2, -7),
                                   ((5, 5), 3, 1, 10), ((FAR, 0), FAR, 1, FAR * FAR), ((0, FAR), 1, FAR, -FAR * FAR)]:
            self.assertEqual(point_value(point, a, c), value)
            self.assertEqual(best([point], a, c), value)

    def test_the_greatest_value(self):
        points = [(1, 0), (2, 2), (3, 3), (5, 5), (5, 6)]
        self.assertEqual(best(points, 1, 2), 1)
        self.assertEqual(best(points, 3, 1), 10)
        self.assertEqual(best(points[::-1], 3, 1), 10)
        self.assertEqual(best([(0, 7), (0, 9)], 5, 2), -14)

    def test_random_values(self):
        rng = random.Random(180)
        for _ in range(200):
            points = random_points(rng, rng.randint(1, 9), 50)
            a, c = rng.randint(1, 60), rng.randint(1, 60)
            expected = max(a * x - c * y for x, y in points)
            self.assertEqual(best(points, a, c), expected)
            self.assertEqual(best(chain(points), a, c), expected)


class ChainTest(unittest.TestCase):
    def test_the_examples(self):
        self.assertEqual(chain([(1, 0), (2, 2), (3, 3), (5, 5), (5, 6)]), [(1, 0), (5, 5)])
        self.assertEqual(chain([(5, 6), (1, 0), (2, 2), (3, 3), (5, 5), (2, 2)]), [(1, 0), (5, 5)])

    def test_few_points(self):
        self.assertEqual(chain([]), [])
        self.assertEqual(chain([(0, 0)]), [(0, 0)])
        self.assertEqual(chain([(FAR, FAR)] * 3), [(FAR, FAR)])
        self.assertEqual(chain([(2, 5), (3, 5)]), [(3, 5)])
        self.assertEqual(chain([(3, 5), (2, 5)]), [(3, 5)])
        self.assertEqual(chain([(3, 5), (3, 6)]), [(3, 5)])
        self.assertEqual(chain([(3, 6), (3, 5)]), [(3, 5)])
        self.assertEqual(chain([(3, 5), (2, 6)]), [(3, 5)])
        self.assertEqual(chain([(4, 6), (3, 5)]), [(3, 5), (4, 6)])

    def test_points_in_a_row(self):
        row = [(k, 2 * k) for k in range(9)]
        self.assertEqual(chain(row), [(0, 0), (8, 16)])
        self.assertEqual(chain(row + [(3, 5)]), [(0, 0), (3, 5), (8, 16)])
        self.assertEqual(chain([(7, k) for k in range(5)]), [(7, 0)])
        self.assertEqual(chain([(k, 7) for k in range(5)]), [(4, 7)])
        self.assertEqual(chain([(k, 9 - k) for k in range(10)]), [(9, 0)])

    def test_staircases(self):
        self.assertEqual(chain([(0, 0), (5, 1), (8, 2), (9, 3)]), [(0, 0), (5, 1), (8, 2), (9, 3)])
        # Quotients that become greater: only the ends are extreme.
        self.assertEqual(chain([(0, 0), (1, 3), (3, 5), (8, 6)]), [(0, 0), (8, 6)])
        self.assertEqual(chain([(0, 0), (1, 1), (5, 4), (6, 9)]), [(0, 0), (5, 4), (6, 9)])
        rng = random.Random(181)
        for _ in range(50):
            points = staircase(rng, rng.randint(1, 30))
            shuffled = points * 2
            rng.shuffle(shuffled)
            self.assertEqual(chain(shuffled), points)

    def test_large_coordinates(self):
        points = [(0, 0), (FAR - 1, 1), (FAR, FAR)]
        self.assertEqual(chain(points), points)
        self.assertEqual(chain([(0, 0), (FAR // 2, FAR // 2), (FAR, FAR)]), [(0, 0), (FAR, FAR)])
        self.assertEqual(chain([(0, 0), (FAR // 2 + 1, FAR // 2), (FAR, FAR)]),
                         [(0, 0), (FAR // 2 + 1, FAR // 2), (FAR, FAR)])

    def test_random_points(self):
        rng = random.Random(182)
        for _ in range(1500):
            points = random_points(rng, rng.randint(0, 9), rng.choice([2, 5, 12, 40]))
            self.assertEqual(chain(points), slow_chain(points), points)

    def test_the_form_of_chains(self):
        rng = random.Random(183)
        for _ in range(100):
            found = chain(random_points(rng, 200, rng.choice([20, 1000, FAR])))
            self.assertEqual(chain(found), found)
            steps = [(x - u, y - v) for (u, v), (x, y) in zip(found, found[1:])]
            self.assertTrue(all(dx > 0 and dy > 0 for dx, dy in steps))
            self.assertTrue(all(dx * v > u * dy for (dx, dy), (u, v) in zip(steps, steps[1:])))


class SumTest(unittest.TestCase):
    def test_the_example_of_the_interface(self):
        self.assertEqual(sum_chain([(1, 0), (5, 5)], [(0, 1), (2, 2)]), [(1, 1), (3, 2), (7, 7)])

    def test_an_empty_list_has_no_sums(self):
        self.assertEqual(sum_chain([], []), [])
        self.assertEqual(sum_chain([(1, 1)], []), [])
        self.assertEqual(sum_chain([], [(1, 1), (2, 5)]), [])

    def test_single_points(self):
        self.assertEqual(sum_chain([(1, 2)], [(3, 4)]), [(4, 6)])
        self.assertEqual(sum_chain([(0, 0)], [(5, 6), (1, 0), (5, 5)]), [(1, 0), (5, 5)])

    def test_random_sums(self):
        rng = random.Random(184)
        for _ in range(500):
            first = random_points(rng, rng.randint(0, 4), rng.choice([3, 9]))
            second = random_points(rng, rng.randint(0, 4), rng.choice([3, 9]))
            self.assertEqual(sum_chain(first, second), slow_chain(sums(first, second)), (first, second))

    def test_sums_of_long_lists(self):
        rng = random.Random(185)
        first, second = random_points(rng, 200, FAR), random_points(rng, 200, FAR)
        self.assertEqual(sum_chain(first, second), chain(sums(first, second)))
        first, second = staircase(rng, 190), staircase(rng, 190)
        self.assertEqual(sum_chain(first, second), chain(sums(first, second)))


class MultipleTest(unittest.TestCase):
    def test_the_example_of_the_interface(self):
        self.assertEqual(multiple_chain([(2, 1)], 0, 3), [(0, 0), (6, 3)])

    def test_factors(self):
        points = [(1, 0), (2, 2), (5, 3)]
        self.assertEqual(multiple_chain(points, 0, 0), [(0, 0)])
        self.assertEqual(multiple_chain(points, 1, 1), chain(points))
        self.assertEqual(multiple_chain(points, 60, 60), [(60, 0), (300, 180)])
        self.assertEqual(multiple_chain(points, 2, 4), [(4, 0), (20, 12)])
        self.assertEqual(multiple_chain([(1, 3)], 2, 4), [(2, 6), (4, 12)])
        self.assertEqual(multiple_chain([(0, 3)], 1, 5), [(0, 3)])
        self.assertEqual(multiple_chain([(0, 0)], 0, 60), [(0, 0)])

    def test_no_points_have_no_multiples(self):
        for least, greatest in [(0, 0), (0, 5), (3, 3)]:
            self.assertEqual(multiple_chain([], least, greatest), [])

    def test_random_multiples(self):
        rng = random.Random(186)
        for _ in range(500):
            points = random_points(rng, rng.randint(0, 5), rng.choice([3, 9]))
            least = rng.randint(0, 3)
            greatest = least + rng.choice([0, 1, 3])
            self.assertEqual(multiple_chain(points, least, greatest),
                             slow_chain(multiples(points, least, greatest)), (points, least, greatest))


class ConventionsTest(unittest.TestCase):
    def test_arguments_are_not_changed_and_lists_are_new(self):
        first, second = [(5, 6), (1, 0), (5, 5)], [(2, 2), (0, 1), (2, 2)]
        before = copy.deepcopy((first, second))
        for call in [lambda: chain(first), lambda: chain([(1, 0)]), lambda: sum_chain(first, second),
                     lambda: multiple_chain(first, 0, 2), lambda: multiple_chain(first, 1, 1)]:
            found = call()
            kept = list(found)
            found.append((99, 99))
            found[0] = (0, 0)
            self.assertEqual(call(), kept)
        best(first, 2, 3)
        self.assertEqual((first, second), before)
        alone = chain(first)
        self.assertIsNot(chain(alone), alone)


if __name__ == "__main__":
    unittest.main()
