package rules_test

import (
	"math"
	"slices"
	"testing"

	"parole/api"
	"parole/num"
	"parole/rules"
	"parole/span"
)

// P13.1, M3: both sides of each limit of what a rule applies to, and of what it keeps.
func TestApply(t *testing.T) {
	a, b, res := masked(byStep(-4, 8, 3), 1), masked(byStep(10, 20, 5), 2), masked(byStep(-12, 30, 6), 7)
	r := rule(5, api.ESub, -4, 8, 10, 20, -12, 12)
	left := masked(byStep(-12, 12, 6), 7)
	for i, c := range []struct {
		r    api.Rule
		want api.Abs
		used bool
	}{
		{r, left, true}, {with(r, fieldALo, -5), left, true}, {with(r, fieldALo, -3), res, false}, {with(r, fieldAHi, 9), left, true}, {with(r, fieldAHi, 7), res, false}, {with(r, fieldBLo, 9), left, true}, {with(r, fieldBLo, 11), res, false}, {with(r, fieldBHi, 21), left, true}, {with(r, fieldBHi, 19), res, false}, {everywhere(5, api.ESub, -12, 12), left, true}, {with(r, fieldALo, 8), res, false}, {with(r, fieldAHi, -4), res, false}, {with(r, fieldBLo, 20), res, false}, {with(r, fieldBHi, 10), res, false},
		{with(r, fieldOp, api.EAdd), res, false}, {with(r, fieldOp, api.EMul), res, false}, {with(r, fieldOp, api.EMax), res, false}, {with(with(r, fieldFirm, 7), fieldVer, 9), left, true},
		// results from -12 to 30 by 6
		{with(r, fieldLo, -13), left, true}, {with(r, fieldLo, -11), masked(byStep(-6, 12, 6), 7), true}, {with(r, fieldLo, -6), masked(byStep(-6, 12, 6), 7), true}, {with(r, fieldLo, -5), masked(byStep(0, 12, 6), 7), true}, {with(r, fieldLo, 7), masked(one(12), 7), true}, {with(r, fieldLo, 12), masked(one(12), 7), true}, {with(r, fieldHi, 17), left, true}, {with(r, fieldHi, 18), masked(byStep(-12, 18, 6), 7), true}, {with(r, fieldHi, 29), masked(byStep(-12, 24, 6), 7), true}, {with(r, fieldHi, 30), res, false}, {with(r, fieldHi, 31), res, false}, {with(r, fieldHi, hi), res, false}, {with(r, fieldHi, -12), masked(one(-12), 7), true}, {with(r, fieldHi, -7), masked(one(-12), 7), true},
		// results of which nothing would be left
		{everywhere(5, api.ESub, lo, -13), res, false}, {everywhere(5, api.ESub, 31, hi), res, false}, {everywhere(5, api.ESub, 7, 11), res, false}, {everywhere(5, api.ESub, 1, 5), res, false}, {everywhere(5, api.ESub, 5, 7), masked(one(6), 7), true}, {everywhere(5, api.ESub, -11, -7), res, false}, {everywhere(5, api.ESub, lo, hi), res, false}, {everywhere(5, api.ESub, 30, hi), masked(one(30), 7), true}, {everywhere(5, api.ESub, lo, -12), masked(one(-12), 7), true},
	} {
		var want []int
		if c.used {
			want = []int{5}
		}
		if x, used := rules.Apply([]api.Rule{c.r}, api.ESub, a, b, res); x != c.want || !slices.Equal(used, want) {
			t.Errorf("case %d: %v %v", i, x, used)
		}
	}
}

// P13.1, M3: sets of one value, and of all values.
func TestApplyToEnds(t *testing.T) {
	all := masked(between(lo, hi), 255)
	for i, c := range []struct {
		r            api.Rule
		a, b, res, x api.Abs
	}{
		{rule(1, api.EAdd, 4, 4, 5, 5, 9, 9), one(4), one(5), between(8, 10), one(9)}, {rule(1, api.EAdd, 4, 4, 5, 5, 9, 9), one(4), one(6), between(8, 10), between(8, 10)}, {rule(1, api.EAdd, 4, 4, 5, 5, 9, 9), one(5), one(5), between(8, 10), between(8, 10)}, {rule(1, api.EAdd, 4, 4, 5, 5, 9, 9), one(4), one(5), one(10), one(10)}, {rule(1, api.EAdd, 4, 4, 5, 5, 9, 9), one(4), one(5), one(9), one(9)},
		{everywhere(1, api.EAdd, 0, 0), all, all, all, masked(one(0), 255)}, {everywhere(1, api.EAdd, lo, lo), all, all, all, masked(one(lo), 255)}, {everywhere(1, api.EAdd, hi, hi), all, all, all, masked(one(hi), 255)}, {everywhere(1, api.EAdd, lo+1, hi), all, all, all, masked(between(lo+1, hi), 255)}, {everywhere(1, api.EAdd, lo, hi-1), all, all, all, masked(between(lo, hi-1), 255)}, {everywhere(1, api.EAdd, lo, hi), all, all, all, all}, {rule(1, api.EAdd, lo+1, hi, lo, hi, 0, 0), all, all, all, all}, {rule(1, api.EAdd, lo, hi, lo, hi-1, 0, 0), all, all, all, all},
		{everywhere(1, api.EAdd, lo+1, hi), one(0), one(0), byStep(lo, hi, 1<<32-1), one(hi)}, {everywhere(1, api.EAdd, lo, hi-1), one(0), one(0), byStep(lo, hi, 1<<32-1), one(lo)}, {everywhere(1, api.EAdd, lo+1, hi-1), one(0), one(0), byStep(lo, hi, 1<<32-1), byStep(lo, hi, 1<<32-1)}, {everywhere(1, api.EAdd, -1, hi), one(0), one(0), byStep(lo, 0, 1<<31), one(0)},
	} {
		x, used := rules.Apply([]api.Rule{c.r}, api.EAdd, c.a, c.b, c.res)
		if x != c.x || (len(used) > 0) != (c.x != c.res) {
			t.Errorf("case %d: %v %v", i, x, used)
		}
	}
}

// P13.1, M3: one rule after the other. The mask stays, whatever those of the operands are.
func TestApplyOrder(t *testing.T) {
	a, b, res := masked(between(0, 5), 8), masked(between(0, 5), 16), masked(between(0, 100), 4)
	of := func(id, first, last int) api.Rule { return rule(id, api.EMul, 0, 5, 0, 5, first, last) }
	for i, c := range []struct {
		l    []api.Rule
		want api.Abs
		used []int
	}{
		{nil, between(0, 100), nil}, {[]api.Rule{of(2, 10, 90), of(1, 20, 95)}, between(20, 90), []int{1, 2}}, {[]api.Rule{of(1, 20, 95), of(2, 10, 90)}, between(20, 90), []int{1, 2}}, {[]api.Rule{of(2, 10, 90), of(1, 5, 95)}, between(10, 90), []int{2}}, {[]api.Rule{of(1, 5, 95), of(2, 10, 90)}, between(10, 90), []int{1, 2}},
		// the second one would leave nothing behind the first one
		{[]api.Rule{of(1, 0, 40), of(2, 60, 100)}, between(0, 40), []int{1}}, {[]api.Rule{of(2, 60, 100), of(1, 0, 40)}, between(60, 100), []int{2}}, {[]api.Rule{of(1, 0, 40), of(2, 60, 100), of(3, 30, 70)}, between(30, 40), []int{1, 3}}, {[]api.Rule{of(3, 30, 70), of(2, 60, 100), of(1, 0, 40)}, between(60, 70), []int{2, 3}},
		// one Id several times
		{[]api.Rule{of(7, 10, 90), of(7, 20, 80)}, between(20, 80), []int{7}}, {[]api.Rule{of(7, 10, 90), of(6, 20, 80), of(7, 30, 70)}, between(30, 70), []int{6, 7}}, {[]api.Rule{of(7, 10, 90), of(7, 10, 90)}, between(10, 90), []int{7}}, {[]api.Rule{of(7, 0, 100), of(7, 0, 9)}, between(0, 9), []int{7}},
		{[]api.Rule{of(maxNumber, 1, 100), of(300, 2, 100), of(20, 3, 100), of(1, 4, 100), of(4000, 5, 100)}, between(5, 100), []int{1, 20, 300, 4000, maxNumber}},
	} {
		if x, used := rules.Apply(c.l, api.EMul, a, b, res); x != masked(c.want, 4) || !slices.Equal(used, c.used) {
			t.Errorf("case %d: %v %v", i, x, used)
		}
	}
}

// P13.1, M3: no rule applies to operators that there are not.
func TestApplyOfNoOperator(t *testing.T) {
	var l []api.Rule
	for i, op := range operators {
		l = append(l, everywhere(i+1, op, 0, 1))
	}
	for _, op := range noOperators {
		if x, used := rules.Apply(l, op, one(1), one(2), between(0, 9)); x != between(0, 9) || len(used) > 0 {
			t.Errorf("operator %d: %v %v", op, x, used)
		}
	}
}

// P13.1 and P13.3, M3: any sets. What is left is within the result, and the result exactly if no rule is used.
func TestApplyAgainstModel(t *testing.T) {
	m, narrowed := newMaker(6), 0
	for range 60000 {
		op, a, b := pick(m, operators...), m.set(), m.set()
		res := pick(m, m.set(), span.Op(op, a, b))
		l := m.rulesFor(op, a, b, res)
		x, used := rules.Apply(l, op, a, b, res)
		want, ids := modelApply(l, op, a, b, res)
		if x != want || !slices.Equal(used, ids) {
			t.Fatalf("Apply(%v, %d, %v, %v, %v) is %v, %v, not %v, %v", l, op, a, b, res, x, used, want, ids)
		}
		if !span.Valid(x) || !span.Leq(x, res) || x.Mask != res.Mask || (x == res) != (len(used) == 0) {
			t.Fatalf("%v of %v, by %v of %v", x, res, used, l)
		}
		if x != res {
			narrowed++
		}
	}
	if narrowed < 10000 || narrowed > 50000 {
		t.Errorf("%d are narrowed", narrowed)
	}
}

// P13.1 and P13.3: value by value.
func TestApplyByValues(t *testing.T) {
	m := newMaker(7)
	for range 20000 {
		op, a, b := pick(m, operators...), m.part(-9, 9), m.part(-9, 9)
		res := m.part(-30, 30)
		l := m.rulesFor(op, a, b, res)
		var values []int
		for v := res.Lo; v <= res.Hi; v += res.M {
			values = append(values, v)
		}
		for _, r := range l {
			left := slices.DeleteFunc(slices.Clone(values), func(v int) bool { return v < r.Lo || v > r.Hi })
			if modelApplies(r, op, a, b) && len(left) > 0 {
				values = left
			}
		}
		x, _ := rules.Apply(l, op, a, b, res)
		for v := -31; v <= 31; v++ {
			if span.Has(x, api.Word{V: v, Mask: res.Mask}) != slices.Contains(values, v) {
				t.Fatalf("Apply(%v, %d, %v, %v, %v) is %v, but should have %v", l, op, a, b, res, x, values)
			}
		}
	}
}

// P13.4: rules of other operators, and those that are not used, may be there or not.
func TestOthersDoNotMatter(t *testing.T) {
	m, few := newMaker(8), 0
	for range 20000 {
		op, a, b := pick(m, operators...), m.set(), m.set()
		res := span.Op(op, a, b)
		l := m.rulesFor(op, a, b, res)
		for i := range l {
			l[i].Id = len(l) - i
		}
		x, used := rules.Apply(l, op, a, b, res)
		same := func(why string, l []api.Rule) {
			if y, ids := rules.Apply(l, op, a, b, res); y != x || !slices.Equal(ids, used) {
				t.Fatalf("%s, Apply(%v, %d, %v, %v, %v) is %v, %v, not %v, %v", why, l, op, a, b, res, y, ids, x, used)
			}
		}
		same("without other operators", rules.Ops(l, op))
		same("without what is not used", slices.DeleteFunc(slices.Clone(l), func(r api.Rule) bool { return !slices.Contains(used, r.Id) }))
		for i, r := range l {
			if !slices.Contains(used, r.Id) {
				same("without one", slices.Delete(slices.Clone(l), i, i+1))
			}
		}
		other := m.anyRule()
		if other.Op != op {
			same("with another one", slices.Insert(slices.Clone(l), m.r.Intn(len(l)+1), other))
		}
		if len(used) > 0 && len(used) < len(l) {
			few++
		}
	}
	if few < 2000 {
		t.Errorf("only %d use some of the rules", few)
	}
}

// P13.2: results of words in two sets, by sound rules.
func TestApplyIsSound(t *testing.T) {
	m, uses := newMaker(9), 0
	for range 20000 {
		l := m.soundRules()
		if len(l) == 0 {
			continue
		}
		r := pick(m, l...)
		a, b := m.part(r.ALo, r.AHi), m.part(r.BLo, r.BHi)
		x, used := rules.Apply(l, r.Op, a, b, span.Op(r.Op, a, b))
		uses += len(used)
		for range 20 {
			v, w := m.wordIn(a), m.wordIn(b)
			result := api.Word{V: num.Op(r.Op, v.V, w.V), Mask: v.Mask | w.Mask}
			if !span.Has(x, result) {
				t.Fatalf("%v of %v and %v by operator %d is not in %v, by %v", result, v, w, r.Op, x, l)
			}
		}
	}
	if uses < 1000 {
		t.Errorf("only %d rules are used", uses)
	}
}

// P13.2 needs sound rules: with one that is not, a result can be lost.
func TestApplyOfUnsoundRule(t *testing.T) {
	r := rule(1, api.EMod, 0, 9, 5, 5, 0, 2)
	a, b := between(0, 9), one(5)
	x, used := rules.Apply([]api.Rule{r}, api.EMod, a, b, span.Op(api.EMod, a, b))
	if rules.Sound(r) || x != between(0, 2) || !slices.Equal(used, []int{1}) || span.Has(x, api.Word{V: num.Op(api.EMod, 9, 5)}) {
		t.Error(x, used)
	}
}

// P1: sets that are not valid, for which the results are unspecified, do no harm.
func TestApplyToOthers(t *testing.T) {
	odd := []api.Abs{{}, {Lo: 5, Hi: 4, M: 1}, {Lo: 0, Hi: 9, M: -3}, {Lo: 0, Hi: 9}, {Lo: math.MinInt, Hi: math.MaxInt, M: math.MaxInt}, {Lo: math.MaxInt, Hi: math.MinInt, M: math.MinInt, R: -1, Mask: -1}, between(0, 9)}
	l := []api.Rule{everywhere(1, api.EAdd, 0, 5), {Op: api.EAdd, ALo: math.MinInt, AHi: math.MaxInt, BLo: math.MinInt, BHi: math.MaxInt, Lo: math.MaxInt, Hi: math.MinInt}}
	for _, a := range odd {
		for _, b := range odd {
			for _, res := range odd {
				rules.Apply(l, api.EAdd, a, b, res)
			}
		}
	}
}
