package shape

import "parole/api"

const (
	maxId        = 1 << 30
	maxName      = 20 // bytes of a name
	maxCap       = 16 // elements of a queue
	maxException = 31
	maxSize      = 60 // operators of an expression or condition
)

func isDecl(d api.Decl) bool {
	return len(d.Globals) <= api.MaxGlobals && len(d.Classes) <= api.MaxClasses &&
		len(d.Sinks) <= api.MaxClasses && len(d.Queues) <= api.MaxQueues &&
		all(d.Globals, isRange) && all(d.Classes, isRange) && all(d.Sinks, isMask) && all(d.Queues, isQueue) &&
		between(0, d.Locks, api.MaxLocks) && between(1, d.Parts, api.MaxParts) && between(1, d.Firms, api.MaxFirms)
}

func isQueue(q api.Queue) bool { return between(1, q.Cap, maxCap) && isRange(q.R) }

// isDef looks at the sites at last, when it is known that there are not too many of them.
func isDef(d api.Def, x api.Decl) bool {
	return isName(d.Name) && isHead(Head(d), x) && areVariables(d) && between(1, d.Budget, api.MaxFuel) &&
		areStatements(d, x) && isId(d.Site) && areDifferent(Sites(d))
}

func isHead(h api.Head, x api.Decl) bool {
	return isId(h.Id) && between(0, h.Firm, x.Firms-1) && between(0, h.Part, x.Parts-1) &&
		len(h.Params) <= api.MaxVars && all(h.Params, isRange) &&
		len(h.Given) <= api.MaxRefs && all(h.Given, isRange)
}

func areVariables(d api.Def) bool {
	isArray := func(a api.Array) bool { return between(1, a.Len, api.MaxLen) && between(0, a.Of, len(d.Params)) }
	return between(len(d.Params), d.Vars, api.MaxVars) && between(len(d.Given), d.Refs, api.MaxRefs) &&
		len(d.Arrays) <= api.MaxArrays && all(d.Arrays, isArray)
}

// isName says whether there is a letter, and then letters, digits and _.
func isName(s string) bool {
	return between(1, len(s), maxName) && isLetter(s[0]) &&
		all([]byte(s), func(b byte) bool { return isLetter(b) || '0' <= b && b <= '9' || b == '_' })
}

func isLetter(b byte) bool { return 'a' <= b && b <= 'z' || 'A' <= b && b <= 'Z' }

func isRange(r api.Range) bool {
	return isValue(r.Lo) && isValue(r.Hi) && r.Lo <= r.Hi && isMask(r.Mask)
}

func isValue(v int) bool { return between(api.MinInt, v, api.MaxInt) }

func isMask(m int) bool { return between(0, m, api.AllMask) }

func isId(n int) bool { return between(1, n, maxId) }

func between(lo, v, hi int) bool { return lo <= v && v <= hi }

func all[T any](l []T, right func(T) bool) bool {
	for _, x := range l {
		if !right(x) {
			return false
		}
	}
	return true
}

func areDifferent(l []int) bool {
	seen := map[int]bool{}
	for _, n := range l {
		if seen[n] {
			return false
		}
		seen[n] = true
	}
	return true
}
