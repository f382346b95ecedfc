package span_test

import (
	"testing"

	"parole/api"
	"parole/span"
)

// P10.1, J4.
func TestRefine(t *testing.T) {
	none := api.Abs{}
	for i, c := range []struct {
		op         int
		holds      bool
		a, b, x, y api.Abs
		is         bool
	}{
		{api.CLt, true, set(0, 9, 3), set(-2, 6, 2), set(0, 3, 3), set(2, 6, 2), true}, {api.CLt, true, set(0, 9, 3), one(9), set(0, 6, 3), one(9), true}, {api.CLt, true, one(0), set(0, 9, 3), one(0), set(3, 9, 3), true}, {api.CLt, true, set(0, 9, 3), one(1), one(0), one(1), true}, {api.CLt, true, set(0, 9, 3), one(0), none, none, false}, {api.CLt, true, one(6), one(6), none, none, false}, {api.CLt, true, set(lo, hi, 1), set(lo, hi, 1), set(lo, hi-1, 1), set(lo+1, hi, 1), true}, {api.CLt, true, one(lo), one(hi), one(lo), one(hi), true}, {api.CLt, true, set(lo, hi, 1), one(lo), none, none, false}, {api.CLt, true, one(hi), set(lo, hi, 1), none, none, false},
		{api.CLt, false, set(0, 9, 3), set(2, 6, 2), set(3, 9, 3), set(2, 6, 2), true}, {api.CLt, false, set(0, 6, 3), set(2, 10, 2), set(3, 6, 3), set(2, 6, 2), true}, {api.CLt, false, one(6), one(6), one(6), one(6), true}, {api.CLt, false, one(5), one(6), none, none, false}, {api.CLt, false, set(lo, hi, 1), one(hi), one(hi), one(hi), true},
		{api.CLe, true, set(0, 9, 3), one(6), set(0, 6, 3), one(6), true}, {api.CLe, true, set(0, 9, 3), set(-5, 5, 5), set(0, 3, 3), set(0, 5, 5), true}, {api.CLe, true, set(0, 9, 3), one(-1), none, none, false}, {api.CLe, true, one(6), one(6), one(6), one(6), true}, {api.CLe, true, one(hi), set(lo, hi, 1), one(hi), one(hi), true},
		{api.CLe, false, set(0, 9, 3), one(6), one(9), one(6), true}, {api.CLe, false, set(0, 9, 3), set(-5, 10, 5), set(0, 9, 3), set(-5, 5, 5), true}, {api.CLe, false, set(0, 9, 3), set(0, 10, 5), set(3, 9, 3), set(0, 5, 5), true}, {api.CLe, false, one(6), one(6), none, none, false}, {api.CLe, false, set(lo, hi, 1), one(hi), none, none, false}, {api.CLe, false, one(lo), set(lo, hi, 1), none, none, false},
		{api.CEq, true, set(0, 9, 3), set(0, 8, 2), set(0, 6, 6), set(0, 6, 6), true}, {api.CEq, true, set(0, 9, 3), one(5), none, none, false}, {api.CEq, true, set(0, 9, 3), one(6), one(6), one(6), true}, {api.CEq, true, set(0, 9, 3), set(10, 20, 1), none, none, false}, {api.CEq, true, one(4), one(4), one(4), one(4), true},
		{api.CEq, false, set(0, 9, 3), one(0), set(3, 9, 3), one(0), true}, {api.CEq, false, set(0, 9, 3), one(9), set(0, 6, 3), one(9), true}, {api.CEq, false, set(0, 9, 3), one(3), set(0, 9, 3), one(3), true}, {api.CEq, false, set(0, 9, 3), one(-3), set(0, 9, 3), one(-3), true}, {api.CEq, false, set(0, 9, 3), one(12), set(0, 9, 3), one(12), true},
		{api.CEq, false, one(9), set(0, 9, 3), one(9), set(0, 6, 3), true}, {api.CEq, false, one(0), set(0, 9, 3), one(0), set(3, 9, 3), true}, {api.CEq, false, one(6), set(0, 9, 3), one(6), set(0, 9, 3), true}, {api.CEq, false, set(3, 4, 1), one(4), one(3), one(4), true}, {api.CEq, false, set(3, 4, 1), one(3), one(4), one(3), true}, {api.CEq, false, one(3), set(3, 4, 1), one(3), one(4), true},
		{api.CEq, false, one(4), one(4), none, none, false}, {api.CEq, false, one(0), one(0), none, none, false}, {api.CEq, false, one(4), one(5), one(4), one(5), true}, {api.CEq, false, set(0, 9, 3), set(0, 9, 3), set(0, 9, 3), set(0, 9, 3), true}, {api.CEq, false, set(0, 9, 9), set(0, 9, 9), set(0, 9, 9), set(0, 9, 9), true}, {api.CEq, false, set(lo, hi, 1), one(lo), set(lo+1, hi, 1), one(lo), true}, {api.CEq, false, one(hi), set(lo, hi, 1<<32-1), one(hi), one(lo), true},
	} {
		for _, m := range [][2]int{{0, 0}, {1, 2}, {3, 6}, {255, 0}} {
			x, y := none, none
			if c.is {
				x, y = masked(c.x, m[0]), masked(c.y, m[1])
			}
			p, q, is := span.Refine(c.op, c.holds, masked(c.a, m[0]), masked(c.b, m[1]))
			if p != x || q != y || is != c.is {
				t.Errorf("case %d with the masks %v: %v, %v, %t", i, m, p, q, is)
			}
		}
	}
}

// P10.1, J4: operators that are no comparisons.
func TestRefineByNoComparison(t *testing.T) {
	for _, op := range noComparisons {
		for _, holds := range []bool{true, false} {
			for _, b := range []api.Abs{masked(one(4), 2), masked(set(0, 9, 3), 1), masked(set(7, 9, 1), 255)} {
				a := masked(one(4), 6)
				if x, y, is := span.Refine(op, holds, a, b); x != a || y != b || !is {
					t.Errorf("Refine(%d, %t, %v, %v) is %v, %v, %t", op, holds, a, b, x, y, is)
				}
			}
		}
	}
}

// keep returns the values of a for which f holds.
func keep(a api.Abs, f func(v int) bool) []int {
	var l []int
	for _, v := range valuesOf(a) {
		if f(v) {
			l = append(l, v)
		}
	}
	return l
}

// modelRefine returns the values that J4 leaves of both sets.
func modelRefine(op int, holds bool, a, b api.Abs) ([]int, []int) {
	switch {
	case op == api.CLt && holds:
		return keep(a, func(v int) bool { return v < b.Hi }), keep(b, func(v int) bool { return v > a.Lo })
	case op == api.CLe && holds:
		return keep(a, func(v int) bool { return v <= b.Hi }), keep(b, func(v int) bool { return v >= a.Lo })
	case op == api.CEq && holds:
		return keep(a, func(v int) bool { return span.Has(b, word(v, 0)) }), keep(b, func(v int) bool { return span.Has(a, word(v, 0)) })
	case op != api.CEq: // the other one of CLt and CLe, with both exchanged
		y, x := modelRefine(api.CLt+api.CLe-op, true, b, a)
		return x, y
	}
	x, y := valuesOf(a), valuesOf(b)
	if len(y) == 1 && (y[0] == a.Lo || y[0] == a.Hi) {
		x = keep(a, func(v int) bool { return v != y[0] })
	}
	if len(x) == 1 && (x[0] == b.Lo || x[0] == b.Hi) {
		y = keep(b, func(v int) bool { return v != x[0] })
	}
	return x, y
}

// P10.1, J4: value by value.
func TestRefineAgainstModel(t *testing.T) {
	for _, a := range few() {
		for _, b := range few() {
			for _, op := range comparisons {
				for _, holds := range []bool{true, false} {
					var x, y api.Abs
					l, k := modelRefine(op, holds, a, b)
					is := len(l) > 0 && len(k) > 0
					if is {
						x, y = hull(l), hull(k)
					}
					if p, q, ok := span.Refine(op, holds, a, b); p != x || q != y || ok != is {
						t.Fatalf("Refine(%d, %t, %v, %v) is %v, %v, %t, not %v, %v, %t", op, holds, a, b, p, q, ok, x, y, is)
					}
				}
			}
		}
	}
}

// P10.6: words of any sets, and what is left of these.
func TestRefineIsSound(t *testing.T) {
	m := newMaker(13)
	for range 30000 {
		op, a, b := comparisons[m.r.Intn(len(comparisons))], m.set(), m.set()
		if m.r.Intn(3) == 0 {
			b = m.part(a)
		}
		for _, right := range []bool{true, false} {
			x, y, is := span.Refine(op, right, a, b)
			if is && (!span.Leq(x, a) || !span.Leq(y, b) || x.Mask != a.Mask || y.Mask != b.Mask) {
				t.Fatalf("Refine(%d, %t, %v, %v) is %v, %v", op, right, a, b, x, y)
			}
			for range 5 {
				v, w := m.word(a), m.word(b)
				if isTrue(op, v.V, w.V) == right && !(is && span.Has(x, v) && span.Has(y, w)) {
					t.Fatalf("Refine(%d, %t, %v, %v) is %v, %v, %t, without %v and %v", op, right, a, b, x, y, is, v, w)
				}
			}
		}
	}
}

// P10.6: all values of sets with few of them.
func TestRefineIsSoundForAll(t *testing.T) {
	l := append(between(-3, 1, 4), between(-5, 2, 4)...)
	for _, op := range comparisons {
		for _, a := range l {
			for _, b := range l {
				for _, right := range []bool{true, false} {
					x, y, is := span.Refine(op, right, a, b)
					for _, v := range valuesOf(a) {
						for _, w := range valuesOf(b) {
							if isTrue(op, v, w) == right && !(is && span.Has(x, word(v, 0)) && span.Has(y, word(w, 0))) {
								t.Fatalf("Refine(%d, %t, %v, %v) is %v, %v, %t, without %d and %d", op, right, a, b, x, y, is, v, w)
							}
						}
					}
				}
			}
		}
	}
}
