package fact_test

import (
	"slices"
	"testing"

	"parole/api"
	"parole/fact"
)

func copyOfExpr(e api.Expr) api.Expr {
	c := e
	c.A = nil
	for _, a := range e.A {
		c.A = append(c.A, copyOfExpr(a))
	}
	return c
}

func copyOfCond(c api.Cond) api.Cond {
	b := api.Cond{Op: c.Op}
	for _, a := range c.A {
		b.A = append(b.A, copyOfExpr(a))
	}
	for _, a := range c.C {
		b.C = append(b.C, copyOfCond(a))
	}
	return b
}

func copyOfDef(d api.Def) api.Def {
	c := d
	c.Params, c.Given, c.Arrays = slices.Clone(d.Params), slices.Clone(d.Given), slices.Clone(d.Arrays)
	return c
}

func isSameExpr(a, b api.Expr) bool {
	return a.Op == b.Op && a.N == b.N && a.V == b.V && slices.EqualFunc(a.A, b.A, isSameExpr)
}

func isSameCond(a, b api.Cond) bool {
	return a.Op == b.Op && slices.EqualFunc(a.A, b.A, isSameExpr) && slices.EqualFunc(a.C, b.C, isSameCond)
}

// L6.
func TestArgumentsStay(t *testing.T) {
	m := newMaker(17)
	for range 10000 {
		d := m.def()
		if d.Vars == 0 {
			continue
		}
		w, e, c := m.words(d), m.expr(d, 3), m.cond(d, 4)
		f, g := m.fact(d, w), m.any(d)
		d2, w2, e2, c2, f2, g2 := copyOfDef(d), slices.Clone(w), copyOfExpr(e), copyOfCond(c), copyOf(f), copyOf(g)
		for level := range 3 {
			fact.Start(d, level)
			fact.Drop(d, level, f)
		}
		fact.Valid(d, f)
		fact.Has(d, f, w)
		fact.Join(f, g)
		fact.Leq(f, g)
		fact.Widen(f, g)
		fact.Widen(g, f)
		fact.Eval(d, f, e)
		fact.Set(d, f, m.r.Intn(d.Vars), m.set(), e)
		fact.Assume(d, f, c, true)
		fact.Assume(d, f, c, false)
		for array := range d.Arrays {
			fact.Inside(d, f, array, e, m.set())
		}
		if !isSame(f, f2) || !isSame(g, g2) || !slices.Equal(w, w2) || !isSameExpr(e, e2) || !isSameCond(c, c2) {
			t.Fatal("an argument has changed")
		}
		if !slices.Equal(d.Params, d2.Params) || !slices.Equal(d.Given, d2.Given) || !slices.Equal(d.Arrays, d2.Arrays) {
			t.Fatal("a definition has changed")
		}
	}
}

// The example of the chapter: i counts the elements of an array, as many as n says.
func TestExample(t *testing.T) {
	d := api.Def{Params: []api.Range{{Lo: 0, Hi: 8}}, Vars: 2, Arrays: []api.Array{{Len: 8, Of: 1}}}
	i, next := variable(1), plus(1, 1)
	f := fact.Start(d, 2)
	if f.V[1] != one(0) || f.Gap[1][0] != no {
		t.Error(f)
	}
	f = fact.Assume(d, f, less(i, length(0)), true)
	if f.Gap[1][0] != -1 || !fact.Inside(d, f, 0, i, fact.Eval(d, f, i)) {
		t.Error(f)
	}
	f = fact.Set(d, f, 1, fact.Eval(d, f, next), next)
	if f.Gap[1][0] != 0 || fact.Inside(d, f, 0, i, fact.Eval(d, f, i)) {
		t.Error(f)
	}
}
