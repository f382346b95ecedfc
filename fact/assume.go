package fact

import (
	"parole/api"
	"parole/gap"
	"parole/span"
)

// A split returns what is known if a condition holds in a fact, and if it does not.
type split func(f api.Fact, c api.Cond) (yes, no api.Fact)

// splitter returns the split of the conditions of a definition. It finds both facts at once, since And and Or need both of their first operands: so it looks at no part of a condition twice.
func splitter(d api.Def) split {
	dead := api.Fact{Dead: true}
	var assume split
	compare := func(f api.Fact, c api.Cond) (yes, no api.Fact) {
		return compared(d, f, c, true), compared(d, f, c, false)
	}
	operators := map[int]split{
		api.CTrue: func(f api.Fact, _ api.Cond) (yes, no api.Fact) { return f, dead },
		api.CLt:   compare,
		api.CLe:   compare,
		api.CEq:   compare,
		api.CNot: func(f api.Fact, c api.Cond) (yes, no api.Fact) {
			no, yes = assume(f, element(c.C, 0))
			return yes, no
		},
		api.CAnd: func(f api.Fact, c api.Cond) (yes, no api.Fact) {
			first, notFirst := assume(f, element(c.C, 0))
			both, notSecond := assume(first, element(c.C, 1))
			return both, Join(notFirst, notSecond)
		},
		api.COr: func(f api.Fact, c api.Cond) (yes, no api.Fact) {
			first, notFirst := assume(f, element(c.C, 0))
			second, neither := assume(notFirst, element(c.C, 1))
			return Join(first, second), neither
		},
	}
	assume = func(f api.Fact, c api.Cond) (yes, no api.Fact) {
		does, ok := operators[c.Op]
		switch {
		case f.Dead:
			return f, f
		case !ok: // no other condition holds
			return dead, f
		}
		return does(f, c)
	}
	return assume
}

// compared returns what is known if a comparison holds, or does not hold.
func compared(d api.Def, f api.Fact, c api.Cond, holds bool) api.Fact {
	a, b := operand(c.A, 0), operand(c.A, 1)
	x, y, ok := span.Refine(c.Op, holds, Eval(d, f, a), Eval(d, f, b))
	if !ok {
		return api.Fact{Dead: true}
	}
	p, q := related(d, f, a), related(d, f, b)
	_, isP := shiftOf(f, p)
	_, isQ := shiftOf(f, q)
	r := withGap(f, gap.Assume(f.Gap, c.Op, holds, p, q, [2]bool{isP, isQ}))
	if a.Op == api.EVar {
		put(r, a.N, x)
	}
	if b.Op == api.EVar {
		put(r, b.N, y)
	}
	return r
}
