package fact_test

import (
	"testing"

	"parole/api"
	"parole/fact"
	"parole/span"
)

// P12.1, L3.
func TestEval(t *testing.T) {
	d, f := table(), wide(masked(byStep(-2, 10, 3), 5), masked(one(6), 8))
	for i, c := range []struct {
		e    api.Expr
		want api.Abs
	}{
		{number(0), one(0)}, {number(lo), one(lo)}, {number(hi), one(hi)}, {variable(0), between(0, 8)}, {variable(1), masked(between(-5, 90), 2)}, {variable(2), masked(byStep(-2, 10, 3), 5)}, {variable(3), masked(one(6), 8)},
		{length(0), one(6)}, {length(1), between(0, 8)}, {length(2), between(0, 64)},
		{plus(2, 4), masked(byStep(2, 14, 3), 5)}, {plusTurned(2, 4), masked(byStep(2, 14, 3), 5)}, {minus(2, 4), masked(byStep(-6, 6, 3), 5)}, {expr(api.ESub, number(4), variable(2)), masked(byStep(-6, 6, 3), 5)}, {expr(api.ESub, number(4), variable(0)), between(-4, 4)}, {expr(api.EAdd, variable(2), variable(3)), masked(byStep(4, 16, 3), 13)}, {expr(api.EMul, variable(0), number(3)), byStep(0, 24, 3)}, {expr(api.EDiv, variable(0), number(3)), between(0, 2)}, {expr(api.EMod, number(17), number(5)), one(2)}, {expr(api.EMin, variable(0), number(3)), between(0, 3)}, {expr(api.EMax, variable(0), number(3)), between(3, 8)},
		{expr(api.EAdd, expr(api.EMul, number(4), variable(0)), number(1)), byStep(1, 33, 4)}, {expr(api.ESub, length(0), variable(3)), masked(one(0), 8)}, {expr(api.ESub, length(1), number(1)), between(-1, 7)}, {plus(0, hi), masked(byStep(lo, hi, 1), 0)},
	} {
		if a := fact.Eval(d, f, c.e); a != c.want {
			t.Errorf("case %d: %v, not %v", i, a, c.want)
		}
	}
}

// P12.1, L3: the lengths of arrays of at most 8 elements, as many as a parameter says.
func TestLengths(t *testing.T) {
	d := api.Def{Params: []api.Range{{}, {}}, Vars: 2, Arrays: []api.Array{{Len: 8, Of: 2}, {Len: 8}, {Len: 1, Of: 1}}}
	for i, c := range []struct{ of, want api.Abs }{
		{one(0), one(0)}, {one(8), one(8)}, {one(9), one(8)}, {one(-1), one(0)}, {one(hi), one(8)}, {one(lo), one(0)}, {one(3), one(3)},
		{between(0, 8), between(0, 8)}, {between(-1, 9), between(0, 8)}, {between(-9, -1), one(0)}, {between(8, 9), one(8)}, {between(9, 20), one(8)}, {between(7, 9), between(7, 8)}, {between(-1, 1), between(0, 1)}, {between(-1, 0), one(0)}, {between(lo, hi), between(0, 8)}, {between(2, 5), between(2, 5)},
		{byStep(0, 8, 4), between(0, 8)}, {byStep(-2, 10, 3), between(0, 8)}, {byStep(1, 7, 6), between(1, 7)}, {masked(between(1, 2), 255), between(1, 2)}, {masked(one(4), 3), one(4)},
	} {
		f := api.Fact{V: []api.Abs{masked(one(1), 7), c.of}, Gap: [][]int{{0, no}, {no, 0}}, Arr: []int{1, 2, 4}}
		for n, want := range []api.Abs{c.want, one(8), one(1)} {
			if a := fact.Eval(d, f, length(n)); a != want {
				t.Errorf("case %d, array %d: %v, not %v", i, n, a, want)
			}
		}
	}
}

// P12.1 and P12.3: any expressions, for words within any facts.
func TestValues(t *testing.T) {
	m, exact := newMaker(11), 0
	for range 40000 {
		d := m.def()
		w := m.words(d)
		f := m.fact(d, w)
		for range 3 {
			e := m.expr(d, 4)
			a := fact.Eval(d, f, e)
			if a != modelEval(d, f, e) || !span.Valid(a) {
				t.Fatalf("Eval(%v, %v, %v) is %v", d, f, e, a)
			}
			if x := wordOf(d, w, e); !span.Has(a, x) {
				t.Fatalf("%v are within %v, %v is %v, which is not in Eval, %v", w, f, e, x, a)
			}
			if a.Lo > lo || a.Hi < hi {
				exact++
			}
		}
	}
	if exact < 60000 {
		t.Errorf("only %d say something", exact)
	}
}
