package rules

import (
	"iter"

	"parole/api"
)

const (
	maxNumber = 1 << 30 // of rules and versions
	maxPairs  = 4096
)

func isRight(r api.Rule) bool {
	return isNumber(r.Id) && isNumber(r.Ver) && 0 <= r.Firm && r.Firm < api.MaxFirms && isOperator(r.Op) &&
		isRange(r.ALo, r.AHi) && isRange(r.BLo, r.BHi) && isRange(r.Lo, r.Hi)
}

func isNumber(n int) bool { return 1 <= n && n <= maxNumber }

func isOperator(op int) bool { return api.EAdd <= op && op <= api.EMax }

func isRange(lo, hi int) bool { return api.MinInt <= lo && lo <= hi && hi <= api.MaxInt }

// pairs yields all pairs of a rule.
func pairs(r api.Rule) iter.Seq2[int, int] {
	return func(yield func(a, b int) bool) {
		for a := r.ALo; a <= r.AHi; a++ {
			for b := r.BLo; b <= r.BHi; b++ {
				if !yield(a, b) {
					return
				}
			}
		}
	}
}
