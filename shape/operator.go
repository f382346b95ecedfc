package shape

import "parole/api"

// A measure goes through an expression or condition, and counts its operators. It stops where one is too big, as what is checked may be of any size.
type measure struct {
	limits []limit
	size   int
}

// enter counts an operator, and returns whether there may be one more at this depth.
func (m *measure) enter(depth int) bool {
	m.size++
	return m.size <= maxSize && depth <= api.MaxDepth
}

func (m *measure) expr(x api.Expr, depth int) bool {
	if !m.enter(depth) {
		return false
	}
	switch x.Op {
	case api.ENum:
		return x.N == 0 && isValue(x.V) && len(x.A) == 0
	case api.EVar:
		return m.limits[variable].has(x.N) && x.V == 0 && len(x.A) == 0
	case api.ELen:
		return m.limits[array].has(x.N) && x.V == 0 && len(x.A) == 0
	case api.EAdd, api.ESub, api.EMul, api.EDiv, api.EMod, api.EMin, api.EMax:
		return x.N == 0 && x.V == 0 && len(x.A) == 2 && m.exprs(x.A, depth+1)
	}
	return false
}

func (m *measure) exprs(l []api.Expr, depth int) bool {
	for _, x := range l {
		if !m.expr(x, depth) {
			return false
		}
	}
	return true
}

func (m *measure) cond(c api.Cond, depth int) bool {
	return m.enter(depth) && hasOperands(c) && m.exprs(c.A, depth+1) && m.conds(c.C, depth+1)
}

func (m *measure) conds(l []api.Cond, depth int) bool {
	for _, c := range l {
		if !m.cond(c, depth) {
			return false
		}
	}
	return true
}

// hasOperands says whether the operator of a condition is known, and it has as many operands as this needs.
func hasOperands(c api.Cond) bool {
	switch c.Op {
	case api.CTrue:
		return len(c.A) == 0 && len(c.C) == 0
	case api.CLt, api.CLe, api.CEq:
		return len(c.A) == 2 && len(c.C) == 0
	case api.CNot:
		return len(c.A) == 0 && len(c.C) == 1
	case api.CAnd, api.COr:
		return len(c.A) == 0 && len(c.C) == 2
	}
	return false
}

func isNoExpr(x api.Expr) bool { return x.Op == 0 && x.N == 0 && x.V == 0 && len(x.A) == 0 }

func isNoCond(c api.Cond) bool { return c.Op == 0 && len(c.A) == 0 && len(c.C) == 0 }
