package rules_test

import (
	"slices"
	"testing"

	"parole/api"
	"parole/fact"
	"parole/num"
	"parole/rules"
	"parole/span"
)

// table has the parameters n (0 to 9) and m (-5 to 5), the variable 2, which is 4, and arrays of 6 elements, and of n.
func table() (api.Def, api.Fact) {
	d := api.Def{Id: 1, Site: 9, Name: "f", Params: []api.Range{{Lo: 0, Hi: 9, Mask: 1}, {Lo: -5, Hi: 5, Mask: 2}}, Vars: 3, Arrays: []api.Array{{Len: 6}, {Len: 8, Of: 1}}, Budget: 1}
	f := fact.Start(d, 2)
	f.V[2] = masked(one(4), 4)
	return d, f
}

// P13.1, M4.
func TestEval(t *testing.T) {
	d, f := table()
	n, m, four := variable(0), variable(1), variable(2)
	sum, difference, product := expr(api.EAdd, n, m), expr(api.ESub, n, m), expr(api.EMul, n, m)
	add := rule(30, api.EAdd, 0, 9, -5, 5, -2, 12) // for n + m, which is from -5 to 14
	mul := rule(10, api.EMul, 0, 9, -5, 5, 0, 40)  // for n m, which is from -45 to 45
	all := []api.Rule{add, mul}
	for i, c := range []struct {
		l    []api.Rule
		e    api.Expr
		want api.Abs
		used []int
	}{
		// what has no operands
		{all, number(7), one(7), nil}, {all, number(lo), one(lo), nil}, {all, n, masked(between(0, 9), 1), nil}, {all, four, masked(one(4), 4), nil}, {all, length(0), one(6), nil}, {all, length(1), between(0, 8), nil},
		// one operator
		{nil, sum, masked(between(-5, 14), 3), nil}, {all, sum, masked(between(-2, 12), 3), []int{30}}, {all, product, masked(between(0, 40), 3), []int{10}}, {all, difference, masked(between(-5, 14), 3), nil}, {all, expr(api.EAdd, m, n), masked(between(-5, 14), 3), nil}, {all, expr(api.EAdd, n, n), masked(between(0, 18), 1), nil}, {all, expr(api.EAdd, number(3), m), masked(between(-2, 8), 2), nil}, {all, expr(api.EAdd, number(8), m), masked(between(3, 12), 2), []int{30}}, {all, expr(api.EAdd, length(0), m), masked(between(1, 11), 2), nil}, {all, expr(api.EMul, length(1), m), masked(between(0, 40), 2), []int{10}}, {all, expr(api.EMul, n, four), masked(byStep(0, 36, 4), 5), nil}, {all, expr(api.EMul, n, number(-3)), masked(one(0), 1), []int{10}}, {all, expr(api.EMul, number(9), number(-5)), one(-45), nil},
		// two operators, of which each one uses what the other one has left
		{all, expr(api.EMul, sum, four), masked(byStep(-8, 48, 4), 7), []int{30}}, {all, expr(api.EAdd, product, product), masked(between(0, 80), 3), []int{10}}, {all, expr(api.EAdd, sum, product), masked(between(-2, 52), 3), []int{10, 30}}, {all, expr(api.ESub, product, sum), masked(between(-12, 42), 3), []int{10, 30}}, {all, expr(api.EMax, expr(api.EMin, sum, product), four), masked(between(4, 12), 7), []int{10, 30}},
		{[]api.Rule{add, rule(2, api.EMul, -2, 12, 4, 4, 0, 99)}, expr(api.EMul, sum, four), masked(byStep(0, 48, 4), 7), []int{2, 30}}, {[]api.Rule{rule(2, api.EMul, -2, 12, 4, 4, 0, 99)}, expr(api.EMul, sum, four), masked(byStep(-20, 56, 4), 7), nil}, {[]api.Rule{rule(2, api.EMul, 4, 4, -2, 12, 0, 99), add}, expr(api.EMul, four, sum), masked(byStep(0, 48, 4), 7), []int{2, 30}},
		// a rule for operands of operands does not apply to these alone
		{[]api.Rule{rule(5, api.EAdd, -5, 14, 4, 4, 0, 17)}, expr(api.EAdd, sum, four), masked(between(0, 17), 7), []int{5}}, {[]api.Rule{add, rule(5, api.EAdd, -5, 14, 4, 4, 0, 15)}, expr(api.EAdd, sum, four), masked(between(2, 15), 7), []int{5, 30}},
	} {
		x, used := rules.Eval(d, c.l, f, c.e)
		if x != c.want || !slices.Equal(used, c.used) {
			t.Errorf("case %d: %v %v", i, x, used)
		}
	}
}

// P13.1, M4: a rule of any operator is used, on both sides of an operator of any kind.
func TestEvalOfEachOperator(t *testing.T) {
	d, f := table()
	for _, op := range operators {
		l := []api.Rule{everywhere(4, op, 1, 2)}
		e := expr(op, variable(0), variable(1))
		got, used := rules.Eval(d, l, f, e)
		if got != masked(between(1, 2), 3) || !slices.Equal(used, []int{4}) {
			t.Errorf("operator %d: %v %v", op, got, used)
		}
		for _, other := range operators {
			if other == op {
				continue
			}
			for _, whole := range []api.Expr{expr(other, e, number(1)), expr(other, number(1), e)} {
				x, used := rules.Eval(d, l, f, whole)
				if want, _ := modelEval(d, l, f, whole); x != want || !slices.Equal(used, []int{4}) {
					t.Errorf("operator %d in %d: %v %v", op, other, x, used)
				}
			}
		}
	}
}

// rulesAround returns rules for the operators in an expression, as they are without rules, or nearly.
func (m maker) rulesAround(d api.Def, f api.Fact, e api.Expr) []api.Rule {
	if !slices.Contains(operators, e.Op) {
		return nil
	}
	l := slices.Concat(m.rulesAround(d, f, e.A[0]), m.rulesAround(d, f, e.A[1]))
	a, b := fact.Eval(d, f, e.A[0]), fact.Eval(d, f, e.A[1])
	return append(l, m.ruleFor(e.Op, a, b, span.Op(e.Op, a, b)))
}

// P13.1, M4: any facts, expressions and rules; P13.4: without the rules that are not used, and those of other operators, nothing changes.
func TestEvalAgainstModel(t *testing.T) {
	m, several, unused := newMaker(10), 0, 0
	for range 20000 {
		d := m.def()
		f, e := m.fact(d), m.expr(d, 4)
		l := slices.Concat(m.rulesAround(d, f, e), m.anyRules())
		m.r.Shuffle(len(l), func(i, j int) { l[i], l[j] = l[j], l[i] })
		for i := range l {
			l[i].Id = 2*len(l) - i
		}
		x, used := rules.Eval(d, l, f, e)
		want, ids := modelEval(d, l, f, e)
		if x != want || !slices.Equal(used, ids) || !span.Valid(x) {
			t.Fatalf("Eval(%v, %v, %v, %v) is %v, %v, not %v, %v", d, l, f, e, x, used, want, ids)
		}
		own := slices.DeleteFunc(slices.Clone(l), func(r api.Rule) bool { return !slices.Contains(used, r.Id) })
		if y, ids := rules.Eval(d, own, f, e); y != x || !slices.Equal(ids, used) {
			t.Fatalf("without those that are not used, Eval(%v, %v, %v, %v) is %v, %v, not %v, %v", d, own, f, e, y, ids, x, used)
		}
		if y, ids := rules.Eval(d, nil, f, e); y != fact.Eval(d, f, e) || len(ids) > 0 {
			t.Fatalf("without rules, Eval(%v, %v, %v) is %v, %v", d, f, e, y, ids)
		}
		if len(used) > 1 {
			several++
		}
		if len(used) < len(l) {
			unused++
		}
	}
	if several < 2000 || unused < 10000 {
		t.Errorf("%d use several rules, %d not all of them", several, unused)
	}
}

// soundRulesOf returns sound rules for the operators in an expression whose operands have few values.
func soundRulesOf(d api.Def, f api.Fact, e api.Expr) []api.Rule {
	if !slices.Contains(operators, e.Op) {
		return nil
	}
	l := slices.Concat(soundRulesOf(d, f, e.A[0]), soundRulesOf(d, f, e.A[1]))
	a, b := fact.Eval(d, f, e.A[0]), fact.Eval(d, f, e.A[1])
	r := rule(e.Op, e.Op, a.Lo, a.Hi, b.Lo, b.Hi, 0, 0)
	if rules.Right(r) != api.OK {
		return l
	}
	r.Lo, r.Hi = results(r)
	return append(l, r)
}

// wordOf is what layer 8 says of the word of an expression.
func wordOf(d api.Def, w []api.Word, e api.Expr) api.Word {
	var values, lens []int
	for _, x := range w {
		values = append(values, x.V)
	}
	for _, a := range d.Arrays {
		n := a.Len
		if a.Of > 0 {
			n = max(0, min(values[a.Of-1], n))
		}
		lens = append(lens, n)
	}
	x := api.Word{V: num.Eval(e, values, lens)}
	for _, v := range num.Reads(e) {
		x.Mask |= w[v].Mask
	}
	return x
}

// P13.2: the words of expressions, by sound rules.
func TestEvalIsSound(t *testing.T) {
	m, uses := newMaker(11), 0
	for range 10000 {
		d := m.def()
		f, e := m.fact(d), m.expr(d, 4)
		for v := range f.V {
			f.V[v] = m.part(m.few(9))
		}
		l := append(soundRulesOf(d, f, e), m.soundRules()...)
		for _, r := range l {
			if !rules.Sound(r) {
				t.Fatalf("%v is not sound", r)
			}
		}
		x, used := rules.Eval(d, l, f, e)
		uses += len(used)
		for range 20 {
			w := make([]api.Word, d.Vars)
			for v, a := range f.V {
				w[v] = m.wordIn(a)
			}
			if !fact.Has(d, f, w) {
				t.Fatalf("%v are not within %v", w, f)
			}
			if v := wordOf(d, w, e); !span.Has(x, v) {
				t.Fatalf("%v of %v for %v is not in %v, by %v", v, e, w, x, l)
			}
		}
	}
	if uses < 1000 {
		t.Errorf("only %d rules are used", uses)
	}
}

// P1 and P13.1: the promises hold up to 2^16 levels of nesting.
func TestDeepNesting(t *testing.T) {
	const levels = 1 << 16
	d, f := table()
	f.V[0] = between(0, 1)
	left, right := variable(0), variable(0)
	for range levels - 1 {
		left, right = expr(api.EAdd, left, variable(0)), expr(api.EAdd, variable(0), right)
	}
	l := []api.Rule{everywhere(8, api.EAdd, -7, 100), everywhere(3, api.EAdd, -7, levels-2), everywhere(9, api.EAdd, -7, 100)}
	for _, e := range []api.Expr{left, right} {
		if x, used := rules.Eval(d, l, f, e); x != between(0, 100) || !slices.Equal(used, []int{8}) {
			t.Error(x, used)
		}
		if x, used := rules.Eval(d, l[1:2], f, e); x != between(0, levels-2) || !slices.Equal(used, []int{3}) {
			t.Error(x, used)
		}
	}
}

// P1: expressions that are not right, and Dead facts, for which the results are unspecified, do no harm.
func TestEvalOfOthers(t *testing.T) {
	d, f := table()
	l := []api.Rule{everywhere(1, api.EAdd, 0, 5), everywhere(2, api.EMul, 0, 5)}
	for _, op := range append(noOperators, operators...) {
		for _, a := range [][]api.Expr{nil, {variable(0)}, {variable(-1), variable(99)}, {length(-1), length(99)}, {{}, {}}, {number(hi + 1), number(lo - 1)}, {number(1), number(2), number(3)}} {
			for _, g := range []api.Fact{f, {Dead: true}, {}} {
				for _, x := range []api.Def{d, {}} {
					rules.Eval(x, l, g, api.Expr{Op: op, A: a})
					rules.Eval(x, l, g, expr(api.EAdd, api.Expr{Op: op, A: a}, number(1)))
				}
			}
		}
	}
}
