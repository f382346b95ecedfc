package rules_test

import (
	"slices"
	"testing"

	"parole/api"
	"parole/rules"
	"parole/span"
)

func copyOfExpr(e api.Expr) api.Expr {
	c := e
	c.A = nil
	for _, a := range e.A {
		c.A = append(c.A, copyOfExpr(a))
	}
	return c
}

func isSameExpr(a, b api.Expr) bool {
	return a.Op == b.Op && a.N == b.N && a.V == b.V && slices.EqualFunc(a.A, b.A, isSameExpr)
}

func copyOfGap(g [][]int) [][]int {
	var c [][]int
	for _, l := range g {
		c = append(c, slices.Clone(l))
	}
	return c
}

// M5: also if results are changed.
func TestArgumentsStay(t *testing.T) {
	m := newMaker(12)
	for range 3000 {
		d := m.def()
		f, e, l := m.fact(d), m.expr(d, 4), slices.Concat(m.anyRules(), m.soundRules())
		params, arrays, v, g, arr := slices.Clone(d.Params), slices.Clone(d.Arrays), slices.Clone(f.V), copyOfGap(f.Gap), slices.Clone(f.Arr)
		e2, l2 := copyOfExpr(e), slices.Clone(l)
		for _, r := range l {
			rules.Right(r)
			rules.Sound(r)
		}
		rules.Digest(l)
		for _, op := range operators {
			clear(rules.Ops(l, op))
			a, b := m.set(), m.set()
			_, used := rules.Apply(l, op, a, b, span.Op(op, a, b))
			clear(used)
		}
		_, used := rules.Eval(d, l, f, e)
		clear(used)
		if !slices.Equal(l, l2) || !isSameExpr(e, e2) {
			t.Fatal("an argument has changed")
		}
		if !slices.Equal(d.Params, params) || !slices.Equal(d.Arrays, arrays) || !slices.Equal(f.V, v) || !slices.EqualFunc(f.Gap, g, slices.Equal[[]int]) || !slices.Equal(f.Arr, arr) {
			t.Fatal("a definition or a fact has changed")
		}
	}
}

// P1: any number of rules.
func TestManyRules(t *testing.T) {
	const n = 100000
	d, f := table()
	var l []api.Rule
	var ids []int
	for i := range n {
		l = append(l, everywhere(n-i, api.EAdd, lo+i, hi-1), rule(n+1, api.EMul, 0, 0, 0, 0, 0, 0))
		ids = append(ids, i+1)
	}
	all := between(lo, hi)
	if x, used := rules.Apply(l, api.EAdd, all, all, all); x != between(lo+n-1, hi-1) || !slices.Equal(used, ids) {
		t.Error(x, len(used))
	}
	if x, used := rules.Eval(d, l, f, expr(api.EMul, expr(api.EAdd, variable(0), number(0)), number(1))); x != masked(between(0, 9), 1) || len(used) > 0 {
		t.Error(x, used)
	}
	if own := rules.Ops(l, api.EMul); len(own) != n {
		t.Error(len(own))
	}
	if rules.Digest(l) == rules.Digest(l[1:]) {
		t.Error("digests")
	}
}

// The example of the chapter.
func TestExample(t *testing.T) {
	r := rule(1, api.EMul, 0, 9, 0, 9, 0, 81)
	if rules.Right(r) != api.OK || !rules.Sound(r) || rules.Sound(with(r, fieldHi, 80)) {
		t.Error(r)
	}
	a, b := byStep(0, 9, 3), between(0, 9)
	res := span.Op(api.EMul, a, b)
	if res != byStep(0, 81, 3) {
		t.Error(res)
	}
	if x, used := rules.Apply([]api.Rule{with(r, fieldHi, 50)}, api.EMul, a, b, res); x != byStep(0, 48, 3) || !slices.Equal(used, []int{1}) {
		t.Error(x, used)
	}
}
