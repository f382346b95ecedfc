package merkle

import (
	"iter"

	"parole/digest"
)

func top(l []uint64) uint64 {
	switch len(l) {
	case 0:
		return 0
	case 1:
		return digest.Join(0, l[0])
	}
	k := powerBelow(len(l))
	return digest.Join(top(l[:k]), top(l[k:]))
}

// powerBelow returns the greatest power of 2 that is less than n, which is at least 2.
func powerBelow[T ~int | ~uint64](n T) T {
	power := T(1)
	for power < n-power { // a comparison of 2 * power could overflow
		power *= 2
	}
	return power
}

// A sibling is a part of a list whose top is an element of a path; ahead says that it comes before the place.
type sibling struct {
	from, to int
	ahead    bool
}

// siblings yields those of the place i of n, in the order of its path.
func siblings(n, i int) iter.Seq[sibling] {
	return func(yield func(sibling) bool) { climb(0, n, i, yield) }
}

// climb yields the siblings of the place i among the numbers from .. to, and returns false if no more are wanted.
func climb(from, to, i int, yield func(sibling) bool) bool {
	if to-from == 1 {
		return true
	}
	middle := from + powerBelow(to-from)
	if i < middle {
		return climb(from, middle, i, yield) && yield(sibling{from: middle, to: to})
	}
	return climb(middle, to, i, yield) && yield(sibling{from: from, to: middle, ahead: true})
}

func pathLen(n, i int) int {
	count := 0
	for range siblings(n, i) {
		count++
	}
	return count
}
