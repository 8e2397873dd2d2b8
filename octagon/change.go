package octagon

import "witness/api"

// A sum of variables is told here by the sign of each of them: 1, -1, or 0 if
// it is not in there. No sum has more than two.

// Greatest is the greatest number that a sum comes to in a state; NoBound, if there is no greatest.
func (o Octagon) Greatest(signs [api.Vars]int) int {
	i, j := sidesOf(signs)
	return o.most(i, j)
}

// AtMost has the states of o in which a sum is no greater than n.
func (o Octagon) AtMost(signs [api.Vars]int, n int) Octagon {
	if o.Empty || o.Greatest(signs) <= n {
		return o
	}
	i, j := sidesOf(signs)
	o.limit(i, j, n)
	o.sharpen()
	return o
}

// SetSum has the states of o with the target made a sum and a number. The sum
// has one variable, or none. Each sum of two sides then comes to what the sides
// were made of came to, so the bounds are sharp without more work.
func (o Octagon) SetSum(target int, signs [api.Vars]int, number int) Octagon {
	from, second := sidesOf(signs)
	if from == opposite(second) {
		return o.SetBetween(target, number, number)
	}
	if target < 0 || target >= api.Vars {
		return o
	}
	origin := [sides]int{0, 1, 2, 3, 4, 5, 6, 7}
	added := [sides]int{}
	side := 2 * target
	origin[side] = from
	origin[side+1] = opposite(from)
	added[side] = number
	added[side+1] = -number
	made := o
	for i := 0; i < sides; i++ {
		for j := 0; j < sides; j++ {
			made.sums[i][j] = plus(o.sums[origin[i]][origin[j]], added[i]+added[j])
		}
	}
	return made
}

// SetBetween has the states of o with the target made each number from low to
// high. The others say nothing of it then, so greatest numbers add up; but the
// sum of its own two sides stays 0.
func (o Octagon) SetBetween(target int, low int, high int) Octagon {
	if target < 0 || target >= api.Vars {
		return o
	}
	upper := 2 * target
	lower := upper + 1
	for j := 0; j < sides; j++ {
		if j == upper || j == lower {
			continue
		}
		other := o.most(j, j)
		o.limit(upper, j, plus(high, other))
		o.limit(lower, j, plus(-low, other))
	}
	o.limit(upper, upper, high)
	o.limit(lower, lower, -low)
	return o
}

// sidesOf are the two sides of a sum. Of one variable it is its side twice; of
// none it is a side and its opposite, which are 0 together.
func sidesOf(signs [api.Vars]int) (int, int) {
	first, second, found := 0, opposite(0), false
	for v := 0; v < api.Vars; v++ {
		if signs[v] == 0 {
			continue
		}
		second = 2 * v
		if signs[v] < 0 {
			second = opposite(second)
		}
		if !found {
			first = second
			found = true
		}
	}
	return first, second
}
