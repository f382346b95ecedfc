package fact_test

import (
	"parole/api"
	"parole/gap"
	"parole/span"
)

// What follows is what the chapter says, word for word.

func modelStart(d api.Def, level int) api.Fact {
	f := api.Fact{Gap: gap.New(d.Vars, len(d.Params)), Arr: make([]int, len(d.Arrays)), Parts: 1}
	if d.Part > 0 {
		f.Parts += 1 << d.Part
	}
	for _, r := range d.Params {
		f.V = append(f.V, span.In(r))
	}
	for len(f.V) < d.Vars {
		f.V = append(f.V, one(0))
	}
	for _, r := range d.Given {
		f.Refs = append(f.Refs, owned(span.In(r)))
	}
	for len(f.Refs) < d.Refs {
		f.Refs = append(f.Refs, null)
	}
	return modelDrop(d, level, f)
}

func modelDrop(d api.Def, level int, f api.Fact) api.Fact {
	g := copyOf(f)
	if f.Dead || level > 1 {
		return g
	}
	g.Gap = gap.Join(f.Gap, gap.New(d.Vars, len(d.Params)))
	if level > 0 {
		return g
	}
	for v, a := range f.V {
		g.V[v] = masked(between(a.Lo, a.Hi), a.Mask)
	}
	for i, x := range f.Refs {
		g.Refs[i].A = masked(between(x.A.Lo, x.A.Hi), x.A.Mask)
	}
	return g
}

func modelValid(d api.Def, f api.Fact) bool {
	if f.Dead {
		return isSame(f, dead)
	}
	if len(f.V) != d.Vars || !gap.Valid(f.Gap, d.Vars, len(d.Params)) || len(f.Refs) != d.Refs || len(f.Arr) != len(d.Arrays) {
		return false
	}
	for _, a := range f.V {
		if !span.Valid(a) {
			return false
		}
	}
	for _, x := range f.Refs {
		if x.S != 1 && x.S != 2 && x.S != 3 || !span.Valid(x.A) || x.S == 1 && x.A != one(0) {
			return false
		}
	}
	for _, n := range append([]int{f.Must, f.May}, f.Arr...) {
		if n < 0 || n > 255 {
			return false
		}
	}
	for bit := 1; bit < 256; bit *= 2 {
		if f.Must&bit > 0 && f.May&bit == 0 {
			return false
		}
	}
	return f.Parts >= 0 && f.Parts <= 65535
}

func modelHas(f api.Fact, w []api.Word) bool {
	if f.Dead {
		return false
	}
	for v, a := range f.V {
		if !span.Has(a, w[v]) {
			return false
		}
		for p, n := range f.Gap[v] {
			if n != no && w[v].V-w[p].V > n {
				return false
			}
		}
	}
	return true
}

// modelMerge is Join, or, with the functions for it, Widen.
func modelMerge(a, b api.Fact, sets func(a, b api.Abs) api.Abs, gaps func(g, h [][]int) [][]int) api.Fact {
	if a.Dead {
		return b
	}
	if b.Dead {
		return a
	}
	f := api.Fact{Gap: gaps(a.Gap, b.Gap), Must: a.Must & b.Must, May: a.May | b.May, Parts: a.Parts & b.Parts}
	for v := range a.V {
		f.V = append(f.V, sets(a.V[v], b.V[v]))
	}
	for i, x := range a.Refs {
		y := b.Refs[i]
		switch r := x.S | y.S; {
		case r == api.RNull:
			f.Refs = append(f.Refs, null)
		case x.S == api.RNull:
			f.Refs = append(f.Refs, api.Ref{S: r, A: y.A})
		case y.S == api.RNull:
			f.Refs = append(f.Refs, api.Ref{S: r, A: x.A})
		default:
			f.Refs = append(f.Refs, api.Ref{S: r, A: sets(x.A, y.A)})
		}
	}
	for i, n := range a.Arr {
		f.Arr = append(f.Arr, n|b.Arr[i])
	}
	return f
}

func modelLeq(a, b api.Fact) bool {
	if a.Dead {
		return true
	}
	if b.Dead || !gap.Leq(a.Gap, b.Gap) || a.May|b.May != b.May || a.Must&b.Must != b.Must || a.Parts&b.Parts != b.Parts {
		return false
	}
	for v := range a.V {
		if !span.Leq(a.V[v], b.V[v]) {
			return false
		}
	}
	for i, x := range a.Refs {
		y := b.Refs[i]
		if x.S|y.S != y.S || x.S >= api.ROwned && !span.Leq(x.A, y.A) {
			return false
		}
	}
	for i, n := range a.Arr {
		if n|b.Arr[i] != b.Arr[i] {
			return false
		}
	}
	return true
}

func modelLength(d api.Def, f api.Fact, array int) api.Abs {
	a := d.Arrays[array]
	if a.Of == 0 {
		return one(a.Len)
	}
	p := f.V[a.Of-1]
	return between(max(0, min(p.Lo, a.Len)), max(0, min(p.Hi, a.Len)))
}

// modelWhole says whether an expression does not wrap; it is the variable w plus c then.
func modelWhole(f api.Fact, e api.Expr) (w, c int, ok bool) {
	for w, a := range f.V {
		if e.Op == api.EVar && e.N == w {
			return w, 0, true
		}
		if len(e.A) != 2 || e.Op != api.EAdd && e.Op != api.ESub {
			continue
		}
		first, second, isAdd := e.A[0], e.A[1], e.Op == api.EAdd
		c := 0
		switch {
		case first.Op == api.EVar && first.N == w && second.Op == api.ENum && isAdd:
			c = second.V
		case first.Op == api.EVar && first.N == w && second.Op == api.ENum:
			c = -second.V
		case second.Op == api.EVar && second.N == w && first.Op == api.ENum && isAdd:
			c = first.V
		default:
			continue
		}
		if a.Lo+c >= lo && a.Lo+c <= hi && a.Hi+c >= lo && a.Hi+c <= hi {
			return w, c, true
		}
	}
	return 0, 0, false
}

func modelEval(d api.Def, f api.Fact, e api.Expr) api.Abs {
	switch e.Op {
	case api.ENum:
		return one(e.V)
	case api.EVar:
		return f.V[e.N]
	case api.ELen:
		return modelLength(d, f, e.N)
	}
	return span.Op(e.Op, modelEval(d, f, e.A[0]), modelEval(d, f, e.A[1]))
}

func modelSet(f api.Fact, v int, a api.Abs, e api.Expr) api.Fact {
	if f.Dead {
		return f
	}
	_, _, is := modelWhole(f, e)
	g := copyOf(f)
	g.V[v], g.Gap = a, gap.Set(f.Gap, v, e, is)
	return g
}

func modelAssume(d api.Def, f api.Fact, c api.Cond, holds bool) api.Fact {
	assume := func(f api.Fact, k int, holds bool) api.Fact { return modelAssume(d, f, c.C[k], holds) }
	join := func(f, g api.Fact) api.Fact { return modelMerge(f, g, span.Join, gap.Join) }
	switch {
	case f.Dead:
		return f
	case c.Op == api.CTrue && holds:
		return f
	case c.Op == api.CTrue:
		return dead
	case c.Op == api.CNot:
		return assume(f, 0, !holds)
	case c.Op == api.CAnd && holds, c.Op == api.COr && !holds:
		return assume(assume(f, 0, holds), 1, holds)
	case c.Op == api.CAnd, c.Op == api.COr:
		return join(assume(f, 0, holds), assume(assume(f, 0, !holds), 1, holds))
	}
	return modelCompare(d, f, c, holds)
}

func modelCompare(d api.Def, f api.Fact, c api.Cond, holds bool) api.Fact {
	x, y, ok := span.Refine(c.Op, holds, modelEval(d, f, c.A[0]), modelEval(d, f, c.A[1]))
	if !ok {
		return dead
	}
	g := copyOf(f)
	for k, a := range []api.Abs{x, y} {
		if c.A[k].Op == api.EVar {
			g.V[c.A[k].N] = a
		}
	}
	var sides [2]api.Expr
	var whole [2]bool
	for k, e := range c.A {
		if sides[k] = e; e.Op == api.ELen && isExact(d, f, e.N) {
			sides[k] = variable(d.Arrays[e.N].Of - 1)
		}
		_, _, whole[k] = modelWhole(f, sides[k])
	}
	g.Gap = gap.Assume(f.Gap, c.Op, holds, sides[0], sides[1], whole)
	return g
}

// isExact says whether a length is exactly a parameter.
func isExact(d api.Def, f api.Fact, array int) bool {
	a := d.Arrays[array]
	return a.Of > 0 && f.V[a.Of-1].Lo >= 0 && f.V[a.Of-1].Hi <= a.Len
}

func modelInside(d api.Def, f api.Fact, array int, e api.Expr, a api.Abs) bool {
	if a.Lo >= 0 && a.Hi < modelLength(d, f, array).Lo {
		return true
	}
	x := d.Arrays[array]
	w, c, ok := modelWhole(f, e)
	return a.Lo >= 0 && x.Of > 0 && ok && f.V[x.Of-1].Hi <= x.Len && gap.Bound(f.Gap, w, x.Of-1)+c <= -1
}
