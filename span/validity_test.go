package span_test

import (
	"testing"

	"parole/api"
	"parole/span"
)

// P10.7: all results for valid sets.
func TestResultsAreValid(t *testing.T) {
	m := newMaker(14)
	for i := range 50000 {
		a, b := m.set(), m.set()
		if i%4 == 0 {
			b = masked(m.part(a), m.mask())
		}
		l := []api.Abs{span.Of(m.word(a)), span.All(a.Mask), span.In(api.Range{Lo: a.Lo, Hi: a.Hi, Mask: a.Mask}), span.Join(a, b), span.Widen(a, b)}
		x, is := span.Meet(a, b)
		l = appendSets(t, l, is, x)
		for _, op := range append(operators, noOperators[m.r.Intn(len(noOperators))]) {
			l = append(l, span.Op(op, a, b))
		}
		for _, op := range append(comparisons, noComparisons[m.r.Intn(len(noComparisons))]) {
			for _, right := range []bool{true, false} {
				x, y, is := span.Refine(op, right, a, b)
				l = appendSets(t, l, is, x, y)
			}
		}
		for j, x := range l {
			if !valid(x) || !span.Valid(x) {
				t.Fatalf("result %d of %v and %v is %v", j, a, b, x)
			}
		}
	}
}

// appendSets appends sets that there are; otherwise they must be zero values.
func appendSets(t *testing.T, l []api.Abs, are bool, sets ...api.Abs) []api.Abs {
	t.Helper()
	if are {
		return append(l, sets...)
	}
	for _, a := range sets {
		if a != (api.Abs{}) {
			t.Fatalf("%v, but there is none", a)
		}
	}
	return l
}
