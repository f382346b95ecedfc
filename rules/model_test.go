package rules_test

import (
	"math/big"
	"slices"

	"parole/api"
	"parole/fact"
	"parole/span"
)

// What follows is what the chapter says, word for word.

func modelRight(r api.Rule) api.Errno {
	between := func(n, first, last int) bool { return first <= n && n <= last }
	if !between(r.Id, 1, 1<<30) || !between(r.Ver, 1, 1<<30) || !between(r.Firm, 0, 7) || !slices.Contains(operators, r.Op) {
		return api.ErrRule
	}
	for _, n := range []int{r.ALo, r.AHi, r.BLo, r.BHi, r.Lo, r.Hi} {
		if !between(n, lo, hi) {
			return api.ErrRule
		}
	}
	if r.ALo > r.AHi || r.BLo > r.BHi || r.Lo > r.Hi {
		return api.ErrRule
	}
	n := new(big.Int).Mul(big.NewInt(int64(r.AHi-r.ALo+1)), big.NewInt(int64(r.BHi-r.BLo+1)))
	if n.Cmp(big.NewInt(4096)) > 0 {
		return api.ErrBig
	}
	return api.OK
}

func modelApplies(r api.Rule, op int, a, b api.Abs) bool {
	for _, v := range []int{a.Lo, a.Hi} {
		if v < r.ALo || v > r.AHi {
			return false
		}
	}
	for _, v := range []int{b.Lo, b.Hi} {
		if v < r.BLo || v > r.BHi {
			return false
		}
	}
	return r.Op == op
}

// modelLeft returns the values of a set from first to last, and whether there are any.
func modelLeft(a api.Abs, first, last int) (api.Abs, bool) {
	below := max(0, first-a.Lo+a.M-1) / a.M // values that are less than first
	above := max(0, a.Hi-last+a.M-1) / a.M
	n := (a.Hi-a.Lo)/a.M + 1
	if below+above >= n {
		return api.Abs{}, false
	}
	return masked(byStep(a.Lo+below*a.M, a.Hi-above*a.M, a.M), a.Mask), true
}

func modelApply(l []api.Rule, op int, a, b, res api.Abs) (api.Abs, []int) {
	var used []int
	for _, r := range l {
		left, ok := modelLeft(res, r.Lo, r.Hi)
		if modelApplies(r, op, a, b) && ok && (left.Lo > res.Lo || left.Hi < res.Hi) {
			res, used = left, append(used, r.Id)
		}
	}
	return res, distinct(used)
}

func distinct(l []int) []int {
	l = slices.Clone(l)
	slices.Sort(l)
	return slices.Compact(l)
}

func modelEval(d api.Def, l []api.Rule, f api.Fact, e api.Expr) (api.Abs, []int) {
	if !slices.Contains(operators, e.Op) {
		return fact.Eval(d, f, e), nil
	}
	a, used := modelEval(d, l, f, e.A[0])
	b, more := modelEval(d, l, f, e.A[1])
	x, most := modelApply(l, e.Op, a, b, span.Op(e.Op, a, b))
	return x, distinct(slices.Concat(used, more, most))
}
