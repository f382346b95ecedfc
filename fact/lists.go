package fact

import (
	"slices"

	"parole/api"
	"parole/span"
)

// begun returns what is known of n things at the beginning: of the first ones, that they are in ranges.
func begun[T any](ranges []api.Range, n int, in func(api.Abs) T, other T) []T {
	var l []T
	for i := range n {
		if i < len(ranges) {
			l = append(l, in(span.In(ranges[i])))
		} else {
			l = append(l, other)
		}
	}
	return l
}

// zip returns what f makes of the pairs of elements at the same places.
func zip[A, B, R any](a []A, b []B, f func(A, B) R) []R {
	r := make([]R, min(len(a), len(b)))
	for i := range r {
		r[i] = f(a[i], b[i])
	}
	return r
}

func haveAllPairs[A, B any](a []A, b []B, is func(A, B) bool) bool {
	return !slices.Contains(zip(a, b, is), false)
}

func haveAll[T any](l []T, is func(T) bool) bool {
	return !slices.ContainsFunc(l, func(x T) bool { return !is(x) })
}

// element returns the zero value, if there is no such element.
func element[T any](l []T, n int) T {
	var x T
	if 0 <= n && n < len(l) {
		x = l[n]
	}
	return x
}
