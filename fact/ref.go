package fact

import (
	"parole/api"
	"parole/span"
)

func isMask(n int) bool { return 0 <= n && n <= api.AllMask }

// isWithin returns whether all bits of one mask are in another one.
func isWithin(m, n int) bool { return m&^n == 0 }

func union(m, n int) int { return m | n }

func isOwned(x api.Ref) bool { return x.S&api.ROwned != 0 }

func isRef(x api.Ref) bool {
	return 1 <= x.S && x.S <= api.RNull|api.ROwned && span.Valid(x.A) && (isOwned(x) || x.A == zero())
}

func isRefLeq(x, y api.Ref) bool {
	return isWithin(x.S, y.S) && (!isOwned(x) || span.Leq(x.A, y.A))
}
