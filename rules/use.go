package rules

import (
	"iter"
	"slices"

	"parole/api"
	"parole/span"
)

// ofOperator yields the rules of an operator, in their order.
func ofOperator(l []api.Rule, op int) iter.Seq[api.Rule] {
	return func(yield func(api.Rule) bool) {
		for _, r := range l {
			if r.Op == op && !yield(r) {
				return
			}
		}
	}
}

// applies returns whether a rule applies to two sets, for its own operator.
func applies(r api.Rule, a, b api.Abs) bool {
	return r.ALo <= a.Lo && a.Hi <= r.AHi && r.BLo <= b.Lo && b.Hi <= r.BHi
}

// ids has the Ids of the rules that have been used.
type ids map[int]bool

// narrow returns what is left of the result of an operator for two sets when the rules are used, and adds the Ids of those that are.
func (used ids) narrow(l []api.Rule, op int, a, b, res api.Abs) api.Abs {
	for r := range ofOperator(l, op) {
		if !applies(r, a, b) {
			continue
		}
		within := span.In(api.Range{Lo: r.Lo, Hi: r.Hi, Mask: res.Mask})
		left, ok := span.Meet(res, within)
		if ok && left != res {
			res, used[r.Id] = left, true
		}
	}
	return res
}

func (used ids) sorted() []int {
	var l []int
	for id := range used {
		l = append(l, id)
	}
	slices.Sort(l)
	return l
}
