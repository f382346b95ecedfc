package fact

import (
	"slices"

	"parole/api"
	"parole/gap"
)

// merged returns what is known wherever one of two facts is, by functions for two sets and for two gaps.
func merged(a, b api.Fact, sets func(x, y api.Abs) api.Abs, gaps func(g, h [][]int) [][]int) api.Fact {
	switch {
	case a.Dead:
		return copied(b)
	case b.Dead:
		return copied(a)
	}
	refs := func(x, y api.Ref) api.Ref {
		s := x.S | y.S
		switch {
		case !isOwned(x):
			return api.Ref{S: s, A: y.A} // which is zero, if y has no record, either
		case !isOwned(y):
			return api.Ref{S: s, A: x.A}
		}
		return api.Ref{S: s, A: sets(x.A, y.A)}
	}
	return api.Fact{
		V:     zip(a.V, b.V, sets),
		Gap:   gaps(a.Gap, b.Gap),
		Refs:  zip(a.Refs, b.Refs, refs),
		Arr:   zip(a.Arr, b.Arr, union),
		Must:  a.Must & b.Must,
		May:   a.May | b.May,
		Parts: a.Parts & b.Parts,
	}
}

// withGap returns f with other gaps, as a fact that shares no memory with f.
func withGap(f api.Fact, g [][]int) api.Fact {
	f.V, f.Refs, f.Arr = slices.Clone(f.V), slices.Clone(f.Refs), slices.Clone(f.Arr)
	f.Gap = g
	return f
}

// copied relies on gap.Join, which makes new gaps.
func copied(f api.Fact) api.Fact { return withGap(f, gap.Join(f.Gap, f.Gap)) }

// put changes the set of a variable, in a fact that is not handed out yet.
func put(f api.Fact, v int, a api.Abs) {
	if 0 <= v && v < len(f.V) {
		f.V[v] = a
	}
}
