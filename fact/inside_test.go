package fact_test

import (
	"testing"

	"parole/api"
	"parole/fact"
)

// P12.1, L5: by the set alone, on both sides of the least length.
func TestInsideBySet(t *testing.T) {
	d := table()
	for i, c := range []struct {
		n     api.Abs
		array int
		a     api.Abs
		is    bool
	}{
		{between(0, 8), 0, between(0, 5), true}, {between(0, 8), 0, between(0, 6), false}, {between(0, 8), 0, between(-1, 5), false}, {between(0, 8), 0, one(5), true}, {between(0, 8), 0, one(6), false}, {between(0, 8), 0, one(-1), false}, {between(0, 8), 0, masked(byStep(1, 5, 4), 255), true}, {between(0, 8), 0, one(hi), false}, {between(0, 8), 0, one(lo), false},
		{between(0, 8), 1, one(0), false}, {between(1, 8), 1, one(0), true}, {between(1, 8), 1, one(1), false}, {between(4, 8), 1, between(0, 3), true}, {between(4, 8), 1, between(0, 4), false}, {between(4, 100), 1, between(0, 3), true}, {one(8), 1, between(0, 7), true}, {one(8), 1, between(0, 8), false}, {one(9), 1, between(0, 7), true}, {between(9, 20), 1, between(0, 8), false}, {between(-3, 8), 1, one(0), false}, {one(-3), 1, one(0), false}, {between(4, 8), 2, one(0), false}, {between(4, 8), 1, between(-1, 2), false},
	} {
		f := changed(xy(), func(f *api.Fact) { f.V[0] = c.n })
		for _, e := range []api.Expr{x, number(3), expr(api.EMul, x, number(2)), plus(3, 2)} {
			if fact.Inside(d, f, c.array, e, c.a) != c.is {
				t.Errorf("case %d, %v: %t", i, e, !c.is)
			}
		}
	}
}

// P12.1, L5: by the gap of a variable, where the set says nothing.
func TestInsideByGap(t *testing.T) {
	d, some := table(), between(0, 100)
	for i, c := range []struct {
		n   api.Abs
		gap int
		e   api.Expr
		a   api.Abs
		is  bool
	}{
		{between(0, 8), -1, x, some, true}, {between(0, 8), 0, x, some, false}, {between(0, 8), -2, x, some, true}, {between(0, 8), -far, x, some, true}, {between(0, 8), no, x, some, false}, {between(0, 8), far, x, some, false}, {between(0, 8), -1, x, between(-1, 100), false}, {between(0, 8), -1, x, one(0), true}, {between(0, 8), -1, x, one(hi), true}, {between(0, 8), -1, x, between(lo, -1), false},
		// the parameter is at most the length, but may be less than 0
		{between(0, 9), -1, x, some, false}, {between(-3, 8), -1, x, some, true}, {between(-3, 9), -1, x, some, false}, {one(8), -1, x, some, true}, {between(lo, 8), -1, x, some, true}, {between(0, hi), -1, x, some, false}, {one(-2), -1, x, some, true},
		{between(0, 8), -2, plus(2, 1), some, true}, {between(0, 8), -1, plus(2, 1), some, false}, {between(0, 8), -2, plusTurned(2, 1), some, true}, {between(0, 8), -1, plusTurned(2, 1), some, false}, {between(0, 8), 0, minus(2, 1), some, true}, {between(0, 8), 1, minus(2, 1), some, false}, {between(0, 8), -2, minus(2, -1), some, true}, {between(0, 8), -1, minus(2, -1), some, false}, {between(0, 8), 0, plus(2, -1), some, true}, {between(0, 8), -1, plus(2, 0), some, true}, {between(0, 8), no, minus(2, hi), some, false}, {between(0, 8), 6, minus(2, 7), some, true},
		{between(0, 8), -9, number(3), some, false}, {between(0, 8), -9, expr(api.ESub, number(1), x), some, false}, {between(0, 8), -9, expr(api.EAdd, x, x), some, false}, {between(0, 8), -9, expr(api.EMul, x, number(1)), some, false}, {between(0, 8), -9, expr(api.EMax, x, number(0)), some, false}, {between(0, 8), -9, expr(api.EAdd, plus(2, 0), number(0)), some, false}, {between(0, 8), -9, expr(api.ESub, length(1), number(1)), some, false}, {between(0, 8), -9, y, some, true}, {between(0, 8), -9, minus(3, 1), some, true}, {between(0, 8), -9, plus(3, 1), some, true}, {between(0, 8), -9, plus(3, 2), some, false}, {between(0, 8), -9, minus(0, 1), some, true}, {between(0, 8), -9, variable(0), some, false}, {between(0, 8), -9, variable(1), some, false},
	} {
		f := changed(xy(), func(f *api.Fact) { f.V[0], f.V[2], f.Gap[2] = c.n, some, []int{c.gap, -50} })
		if fact.Inside(d, f, 1, c.e, c.a) != c.is {
			t.Errorf("case %d: %t", i, !c.is)
		}
		if f.Gap[2] = []int{c.gap, no}; fact.Inside(d, f, 0, c.e, some) || fact.Inside(d, f, 2, c.e, some) {
			t.Errorf("case %d: inside of another array", i)
		}
	}
}

// P12.1, L5: an index that may wrap around is not inside by its gap.
func TestInsideThatWraps(t *testing.T) {
	d := table()
	for i, c := range []struct {
		x  api.Abs
		e  api.Expr
		is bool
	}{
		{between(0, hi-1), plus(2, 1), true}, {between(0, hi), plus(2, 1), false}, {between(0, hi), plusTurned(2, 1), false}, {between(0, hi), minus(2, -1), false}, {between(0, hi), x, true}, {between(0, hi), minus(2, 1), true}, {between(lo+1, 0), minus(2, 1), true}, {between(lo, 0), minus(2, 1), false}, {between(lo, 0), plus(2, -1), false}, {between(lo, hi), x, true},
	} {
		f := changed(xy(), func(f *api.Fact) { f.V[2], f.Gap[2] = c.x, []int{-9, no} })
		if fact.Inside(d, f, 1, c.e, between(0, 100)) != c.is {
			t.Errorf("case %d: %t", i, !c.is)
		}
	}
}

// near returns words with small values, and a fact that they are within.
func (m maker) near(d api.Def) ([]api.Word, api.Fact) {
	w := make([]api.Word, d.Vars)
	for v := range w {
		w[v] = api.Word{V: m.r.Intn(14) - 2, Mask: m.mask()}
	}
	return w, m.fact(d, w)
}

// P12.1 and P12.7: the values of expressions, in sets that have them.
func TestIndices(t *testing.T) {
	m, bySet, byGap := newMaker(16), 0, 0
	for range 100000 {
		d := m.def()
		if len(d.Arrays) == 0 || d.Vars == 0 {
			continue
		}
		w, f := m.near(d)
		e, array := m.side(d), m.r.Intn(len(d.Arrays))
		value := wordOf(d, w, e)
		for _, a := range []api.Abs{fact.Eval(d, f, e), m.around(value), between(max(value.V, 0), max(value.V, 0)+m.r.Intn(9)), between(min(max(value.V, 0), 9), 9)} {
			is := fact.Inside(d, f, array, e, a)
			if is != modelInside(d, f, array, e, a) {
				t.Fatalf("Inside(%v, %v, %d, %v, %v) is %t", d, f, array, e, a, is)
			}
			if !is || !isIn(a, value.V) {
				continue
			}
			if n := lensOf(d, w)[array]; value.V < 0 || value.V >= n {
				t.Fatalf("%v are within %v, %v is %d, of %d elements", w, f, e, value.V, n)
			}
			if a.Hi < modelLength(d, f, array).Lo {
				bySet++
			} else {
				byGap++
			}
		}
	}
	if bySet < 10000 || byGap < 1000 {
		t.Errorf("only %d are inside by their sets, and %d by their gaps", bySet, byGap)
	}
}

func isIn(a api.Abs, v int) bool { return a.Lo <= v && v <= a.Hi && (v-a.Lo)%a.M == 0 }

// P12.7: a loop over an array of n elements, forwards and backwards, for all n.
func TestIndicesOfLoops(t *testing.T) {
	d := api.Def{Params: []api.Range{{Lo: -3, Hi: 8}}, Vars: 2, Arrays: []api.Array{{Len: 8, Of: 1}}}
	some := fact.Set(d, fact.Start(d, 2), 1, between(0, hi), api.Expr{})
	up := fact.Assume(d, some, less(variable(1), variable(0)), true)
	down := fact.Assume(d, some, atMost(variable(1), variable(0)), true)
	if !fact.Inside(d, up, 0, variable(1), up.V[1]) || fact.Inside(d, down, 0, variable(1), down.V[1]) || !fact.Inside(d, down, 0, minus(1, 1), between(0, 7)) || fact.Inside(d, down, 0, minus(1, 1), fact.Eval(d, down, minus(1, 1))) {
		t.Error(up, down)
	}
	for n := -3; n <= 8; n++ {
		for i := range 10 {
			w := []api.Word{{V: n}, {V: i}}
			if fact.Has(d, up, w) != (i < n) || fact.Has(d, down, w) != (i <= n) {
				t.Errorf("%v", w)
			}
		}
	}
}
