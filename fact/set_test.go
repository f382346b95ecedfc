package fact_test

import (
	"slices"
	"testing"

	"parole/api"
	"parole/fact"
	"parole/span"
)

// P12.1, L3: the variable and its gaps; those of v2 are 4 and not known, those of v3 -2 and 30.
func TestSet(t *testing.T) {
	d, f := table(), wide(between(-2, 10), one(6))
	a := masked(byStep(3, 9, 3), 4)
	for i, c := range []struct {
		e   api.Expr
		gap []int
	}{
		{api.Expr{}, []int{no, no}}, {number(4), []int{no, no}}, {length(1), []int{no, no}}, {variable(0), []int{0, no}}, {variable(1), []int{no, 0}}, {variable(2), []int{4, no}}, {variable(3), []int{-2, 30}},
		{plus(3, 2), []int{0, 32}}, {plus(3, -2), []int{-4, 28}}, {plusTurned(3, 2), []int{0, 32}}, {minus(3, 2), []int{-4, 28}}, {minus(3, -2), []int{0, 32}}, {plus(2, 1), []int{5, no}}, {plus(3, 0), []int{-2, 30}},
		{expr(api.ESub, number(2), variable(3)), []int{no, no}}, {expr(api.EAdd, variable(3), variable(3)), []int{no, no}}, {expr(api.ESub, variable(3), variable(0)), []int{no, no}}, {expr(api.EMul, variable(3), number(1)), []int{no, no}}, {expr(api.EMax, variable(3), number(1)), []int{no, no}}, {expr(api.EAdd, plus(3, 1), number(1)), []int{no, no}}, {expr(api.EAdd, length(1), number(1)), []int{no, no}}, {expr(api.ESub, variable(3), length(0)), []int{no, no}}, {expr(api.EAdd, number(1), number(1)), []int{no, no}},
	} {
		for v := 2; v < 4; v++ {
			want := changed(f, func(f *api.Fact) { f.V[v], f.Gap[v] = a, c.gap })
			if g := fact.Set(d, f, v, a, c.e); !isSame(g, want) {
				t.Errorf("case %d, variable %d: %v", i, v, g)
			}
		}
		if g := fact.Set(d, dead, 2, a, c.e); !isSame(g, dead) {
			t.Errorf("case %d: %v", i, g)
		}
	}
	for v := range 4 {
		if g := fact.Set(d, f, v, a, plus(3, 2)); !isSame(g, changed(f, func(f *api.Fact) { f.V[v], f.Gap[v] = a, []int{0, 32} })) {
			t.Errorf("variable %d: %v", v, g)
		}
	}
}

// P12.1, L3: an expression that may wrap around says nothing of gaps, whatever the set is.
func TestSetThatWraps(t *testing.T) {
	d := table()
	for i, c := range []struct {
		x  api.Abs
		e  api.Expr
		is bool
	}{
		{between(0, hi-1), plus(2, 1), true}, {between(0, hi), plus(2, 1), false}, {between(0, hi), plusTurned(2, 1), false}, {between(0, hi-1), plusTurned(2, 1), true}, {between(0, hi), minus(2, -1), false}, {between(0, hi-1), minus(2, -1), true}, {between(0, hi), plus(2, -1), true}, {between(0, hi), minus(2, 1), true}, {between(0, hi), plus(2, 0), true}, {between(lo, hi), variable(2), true}, {between(lo, hi), plus(2, 0), true}, {between(lo, hi), minus(2, 0), true},
		{between(lo+1, 0), plus(2, -1), true}, {between(lo, 0), plus(2, -1), false}, {between(lo, 0), plusTurned(2, -1), false}, {between(lo+1, 0), minus(2, 1), true}, {between(lo, 0), minus(2, 1), false}, {between(lo, 0), plus(2, 1), true},
		{between(lo, -1), minus(2, lo), true}, {between(lo, 0), minus(2, lo), false}, {between(0, hi), plus(2, lo), true}, {between(-1, hi), plus(2, lo), false}, {between(lo, 0), plus(2, hi), true}, {between(lo, 1), plus(2, hi), false}, {between(-1, hi), minus(2, hi), true}, {between(-2, hi), minus(2, hi), false},
		{byStep(lo, hi, 1<<32-1), plus(2, 1), false}, {byStep(lo, hi, 1<<32-1), plus(2, -1), false}, {one(hi), plus(2, 1), false}, {one(lo), minus(2, 1), false},
	} {
		f := wide(c.x, one(6))
		f.Gap[2] = []int{4, -7}
		g := fact.Set(d, f, 3, masked(between(-1, 1), 9), c.e)
		if isKnown := g.Gap[3][0] != no; isKnown != c.is || (g.Gap[3][1] != no) != c.is {
			t.Errorf("case %d: %v", i, g.Gap)
		}
		if c.e.Op == api.EVar && !slices.Equal(g.Gap[3], f.Gap[2]) || g.V[3] != masked(between(-1, 1), 9) || g.V[2] != c.x {
			t.Errorf("case %d: %v", i, g)
		}
	}
}

// P12.1, L3: what wraps is asked of the fact before, also where the variable itself gets another set.
func TestSetOfItself(t *testing.T) {
	d := table()
	for _, is := range []bool{true, false} {
		x, a := between(0, hi), one(5)
		if is {
			x, a = a, x
		}
		if g := fact.Set(d, wide(x, one(6)), 2, a, plus(2, 3)); !isSame(g, changed(wide(a, one(6)), func(f *api.Fact) {
			if f.Gap[2][0] = no; is {
				f.Gap[2][0] = 7
			}
		})) {
			t.Error(g)
		}
	}
}

// P12.1 and P12.4: assignments of any expressions to variables that are no parameters.
func TestAssignments(t *testing.T) {
	m, known := newMaker(12), 0
	for range 60000 {
		d := m.def()
		params := len(d.Params)
		if params == d.Vars {
			continue
		}
		w := m.words(d)
		f, v, e := m.fact(d, w), params+m.r.Intn(d.Vars-params), m.expr(d, 3)
		x := wordOf(d, w, e)
		after := slices.Clone(w)
		after[v] = x
		for _, a := range []api.Abs{fact.Eval(d, f, e), span.Of(x), m.around(x)} {
			g := fact.Set(d, f, v, a, e)
			if !isSame(g, modelSet(f, v, a, e)) || !fact.Valid(d, g) {
				t.Fatalf("Set(%v, %d, %v, %v) is %v", f, v, a, e, g)
			}
			if !fact.Has(d, g, after) {
				t.Fatalf("%v are within %v, but %v not within Set(%d, %v, %v), %v", w, f, after, v, a, e, g)
			}
			if params > 0 && g.Gap[v][0] < no {
				known++
			}
			after[v] = m.wordOfSet(a)
			if h := fact.Set(d, f, v, a, api.Expr{}); !isSame(h, modelSet(f, v, a, api.Expr{})) || !fact.Has(d, h, after) {
				t.Fatalf("%v are within %v, but %v not within Set(%d, %v, nothing), %v", w, f, after, v, a, h)
			}
			after[v] = x
		}
	}
	if known < 10000 {
		t.Errorf("only %d gaps are known", known)
	}
}

// wordOfSet returns a word in a set.
func (m maker) wordOfSet(a api.Abs) api.Word {
	return api.Word{V: a.Lo + m.count((a.Hi-a.Lo)/a.M)*a.M, Mask: a.Mask & m.mask()}
}

// P12.1, L3: also for words of parameters, and with any facts.
func TestSetAgainstModel(t *testing.T) {
	m := newMaker(13)
	for range 30000 {
		d := m.def()
		if d.Vars == 0 {
			continue
		}
		f, v, a, e := m.any(d), m.r.Intn(d.Vars), m.set(), m.expr(d, 3)
		if g := fact.Set(d, f, v, a, e); !isSame(g, modelSet(f, v, a, e)) || !fact.Valid(d, g) {
			t.Fatalf("Set(%v, %d, %v, %v) is %v", f, v, a, e, g)
		}
	}
}
