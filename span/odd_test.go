package span_test

import (
	"math"
	"testing"

	"parole/api"
	"parole/span"
)

// LANGUAGE.md: all calls end without a panic, also for sets that are not valid.
func TestOddSets(t *testing.T) {
	m := newMaker(15)
	number := func() int {
		l := []int{math.MinInt, math.MinInt + 1, -1 << 32, lo - 1, lo, -3, -1, 0, 1, 2, 3, hi, hi + 1, 1 << 32, 1 << 62, math.MaxInt - 1, math.MaxInt, int(m.r.Uint64())}
		return l[m.r.Intn(len(l))]
	}
	odd := func() api.Abs {
		a := m.set()
		for _, n := range []*int{&a.Lo, &a.Hi, &a.M, &a.R, &a.Mask} {
			if m.r.Intn(2) == 0 {
				*n = number()
			}
		}
		return a
	}
	for range 200000 {
		a, b := odd(), odd()
		if span.Valid(a) != valid(a) {
			t.Fatalf("%v is valid: %t", a, span.Valid(a))
		}
		span.Of(word(number(), number()))
		span.All(number())
		span.In(api.Range{Lo: number(), Hi: number(), Mask: number()})
		span.Has(a, word(number(), number()))
		span.Join(a, b)
		span.Leq(a, b)
		span.Widen(a, b)
		if x, is := span.Meet(a, b); !is && x != (api.Abs{}) {
			t.Fatalf("Meet(%v, %v) is %v, but there is none", a, b, x)
		}
		span.Op(operators[m.r.Intn(len(operators))], a, b)
		span.Op(number(), a, b)
		span.Refine(comparisons[m.r.Intn(len(comparisons))], m.r.Intn(2) == 0, a, b)
		span.Refine(number(), true, a, b)
	}
}
