package num_test

import (
	"math/rand"

	"parole/api"
)

const lo, hi = api.MinInt, api.MaxInt

// edges are the values at which operators are most likely to go wrong.
var edges = []int{lo, lo + 1, -1 << 16, -7, -2, -1, 0, 1, 2, 7, 1<<16 - 1, 1 << 16, hi - 1, hi}

var operators = []int{api.EAdd, api.ESub, api.EMul, api.EDiv, api.EMod, api.EMin, api.EMax}

// noOperators are numbers near those of operators, or the same ones modulo 2^32.
var noOperators = []int{lo, -1, 0, api.ENum, api.EVar, api.ELen, 11, 12, 1<<32 + api.EAdd, 1<<32 + api.EMax}

func number(v int) api.Expr { return api.Expr{Op: api.ENum, V: v} }

func variable(n int) api.Expr { return api.Expr{Op: api.EVar, N: n} }

func length(n int) api.Expr { return api.Expr{Op: api.ELen, N: n} }

func expr(op int, operands ...api.Expr) api.Expr { return api.Expr{Op: op, A: operands} }

func compare(op int, operands ...api.Expr) api.Cond { return api.Cond{Op: op, A: operands} }

func join(op int, operands ...api.Cond) api.Cond { return api.Cond{Op: op, C: operands} }

func not(c api.Cond) api.Cond { return join(api.CNot, c) }

func and(c, d api.Cond) api.Cond { return join(api.CAnd, c, d) }

func or(c, d api.Cond) api.Cond { return join(api.COr, c, d) }

// A maker makes the same expressions, conditions and values whenever the tests run.
type maker struct{ r *rand.Rand }

func newMaker(seed int64) maker { return maker{rand.New(rand.NewSource(seed))} }

func (m maker) value() int {
	switch m.r.Intn(3) {
	case 0:
		return edges[m.r.Intn(len(edges))]
	case 1:
		return m.r.Intn(21) - 10
	}
	return int(int32(m.r.Uint32()))
}

func (m maker) values(n int) []int {
	l := make([]int, n)
	for i := range l {
		l[i] = m.value()
	}
	return l
}

// expr also makes expressions with wrong operators, missing and further operands, and variables that there are not.
func (m maker) expr(depth int) api.Expr {
	e := api.Expr{N: m.r.Intn(8) - 1, V: m.value()}
	if depth <= 1 {
		e.Op = 1 + m.r.Intn(3)
		return e
	}
	e.Op = m.r.Intn(13) - 1
	for range []int{2, 2, 2, 2, 0, 1, 3}[m.r.Intn(7)] {
		e.A = append(e.A, m.expr(depth-1-m.r.Intn(2)))
	}
	return e
}

func (m maker) cond(depth int) api.Cond {
	if depth <= 2 {
		return compare(api.CLt+m.r.Intn(3), m.expr(2), m.expr(2))
	}
	c := api.Cond{Op: m.r.Intn(10) - 1}
	for range []int{2, 2, 2, 2, 0, 1, 3}[m.r.Intn(7)] {
		c.A = append(c.A, m.expr(depth-1))
		c.C = append(c.C, m.cond(depth-1))
	}
	return c
}
