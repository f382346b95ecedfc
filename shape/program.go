package shape

import (
	"slices"

	"parole/api"
)

// isProgram says whether a program is right but for circles of calls. Statements are looked at again only when those of each definition are known to be right, and so not too many.
func isProgram(p api.Program) bool {
	return isDecl(p.D) && areHeads(p) && areDefs(p) && areDifferent(allSites(p)) && areCalls(p) && areThreads(p)
}

func areHeads(p api.Program) bool {
	return len(p.Heads) <= api.MaxDefs &&
		all(p.Heads, func(h api.Head) bool { return isHead(h, p.D) }) &&
		areIncreasing(p.Heads, func(h api.Head) int { return h.Id })
}

func areDefs(p api.Program) bool {
	isOpen := func(d api.Def) bool {
		h, ok := HeadOf(p, d.Id)
		return ok && sameHead(h, Head(d)) && isDef(d, p.D)
	}
	return len(p.Defs) <= len(p.Heads) && areIncreasing(p.Defs, func(d api.Def) int { return d.Id }) && all(p.Defs, isOpen)
}

func sameHead(a, b api.Head) bool {
	return a.Id == b.Id && a.Firm == b.Firm && a.Part == b.Part &&
		slices.Equal(a.Params, b.Params) && slices.Equal(a.Given, b.Given)
}

func areIncreasing[T any](l []T, id func(T) int) bool {
	for i := 1; i < len(l); i++ {
		if id(l[i-1]) >= id(l[i]) {
			return false
		}
	}
	return true
}

func allSites(p api.Program) []int {
	var l []int
	for _, d := range p.Defs {
		l = append(l, Sites(d)...)
	}
	return l
}

func areCalls(p api.Program) bool {
	for _, d := range p.Defs {
		for _, s := range statements(d.Body) {
			if s.Op == api.SCall && !isCall(p, s) {
				return false
			}
		}
	}
	return true
}

func isCall(p api.Program, s api.Stmt) bool {
	h, ok := HeadOf(p, s.M)
	return ok && len(h.Params) == len(s.Args) && len(h.Given) == len(s.Ptrs)
}

func areThreads(p api.Program) bool {
	isThread := func(id int) bool {
		d, ok := Find(p, id)
		return ok && len(d.Params) == 0 && len(d.Given) == 0
	}
	return len(p.Threads) <= api.MaxThreads && all(p.Threads, isThread)
}

// A caller is an open definition that has no place in an order yet.
type caller struct {
	id    int
	calls []int
}

func callers(p api.Program) []caller {
	var l []caller
	for _, d := range p.Defs {
		l = append(l, caller{d.Id, Calls(d)})
	}
	return l
}

// waitsFor says whether one of the callees has no place either.
func (c caller) waitsFor(waiting []caller) bool {
	return slices.ContainsFunc(waiting, func(w caller) bool { return slices.Contains(c.calls, w.id) })
}
