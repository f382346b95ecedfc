// Package num is layer 1: see shared/doc/01-num.md.
package num

import "parole/api"

// Wrap and Op: A1.
func Wrap(v int) int { return int(int32(v)) }

// Op keeps its map to itself: one that does not leave the call costs no memory.
func Op(op, a, b int) int {
	operators := map[int]func(a, b int) int{
		api.EAdd: func(a, b int) int { return a + b },
		api.ESub: func(a, b int) int { return a - b },
		api.EMul: func(a, b int) int { return a * b },
		api.EDiv: quotient,
		api.EMod: func(a, b int) int { return a - b*quotient(a, b) },
		api.EMin: func(a, b int) int { return min(a, b) },
		api.EMax: func(a, b int) int { return max(a, b) },
	}
	f, ok := operators[op]
	if !ok {
		return 0
	}
	return Wrap(f(Wrap(a), Wrap(b)))
}

// Eval: A2.
func Eval(e api.Expr, vars, lens []int) int {
	switch e.Op {
	case api.ENum:
		return Wrap(e.V)
	case api.EVar:
		return element(vars, e.N)
	case api.ELen:
		return element(lens, e.N)
	}
	if !isOperator(e.Op) {
		return 0
	}
	a, b := values(e.A, vars, lens)
	return Op(e.Op, a, b)
}

// Holds: A3.
func Holds(c api.Cond, vars, lens []int) bool {
	part := func(k int) bool { return k < len(c.C) && Holds(c.C[k], vars, lens) }
	switch c.Op {
	case api.CTrue:
		return true
	case api.CLt:
		a, b := values(c.A, vars, lens)
		return a < b
	case api.CLe:
		a, b := values(c.A, vars, lens)
		return a <= b
	case api.CEq:
		a, b := values(c.A, vars, lens)
		return a == b
	case api.CNot:
		return !part(0)
	case api.CAnd:
		return part(0) && part(1)
	case api.COr:
		return part(0) || part(1)
	}
	return false
}

// Reads and ReadsC: A4.
func Reads(e api.Expr) []int { return distinct(appendReads(nil, e)) }

func ReadsC(c api.Cond) []int { return distinct(appendReadsC(nil, c)) }

// Depth and DepthC: A5.
func Depth(e api.Expr) int {
	below := 0
	for _, a := range operands(e) {
		below = max(below, Depth(a))
	}
	return below + 1
}

func DepthC(c api.Cond) int {
	exprs, conds := operandsC(c)
	below := 0
	for _, a := range exprs {
		below = max(below, Depth(a))
	}
	for _, d := range conds {
		below = max(below, DepthC(d))
	}
	return below + 1
}
