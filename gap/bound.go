package gap

import "parole/api"

// far is the greatest size of a bound that is kept: a chain of shifts cannot make the numbers grow without an end.
const far = 1 << 34

func isNear(n int) bool { return -far <= n && n <= far }

// sum needs no case for NoGap: what is added here is at most 2^32 + 1 in size, and does not lead back from there.
func sum(bound, n int) int {
	if !isNear(bound + n) {
		return api.NoGap
	}
	return bound + n
}

// each returns new gaps, made by f from the variable, the parameter and the number of each one of g.
func each(g [][]int, f func(v, p, n int) int) [][]int {
	r := make([][]int, len(g))
	for v, l := range g {
		r[v] = make([]int, len(l))
		for p, n := range l {
			r[v][p] = f(v, p, n)
		}
	}
	return r
}

func copied(g [][]int) [][]int {
	return each(g, func(_, _, n int) int { return n })
}
