package num

import (
	"slices"

	"parole/api"
)

func isOperator(op int) bool { return api.EAdd <= op && op <= api.EMax }

// operands returns the operands that an expression has; further elements of A have no meaning.
func operands(e api.Expr) []api.Expr {
	if !isOperator(e.Op) {
		return nil
	}
	return atMost(e.A, 2)
}

// operandsC returns the operands that a condition has: expressions or conditions.
func operandsC(c api.Cond) ([]api.Expr, []api.Cond) {
	switch c.Op {
	case api.CLt, api.CLe, api.CEq:
		return atMost(c.A, 2), nil
	case api.CNot:
		return nil, atMost(c.C, 1)
	case api.CAnd, api.COr:
		return nil, atMost(c.C, 2)
	}
	return nil, nil
}

func atMost[T any](l []T, n int) []T { return l[:min(len(l), n)] }

// appendReads collects into one list, which is sorted only once, so that deep expressions take no longer than wide ones.
func appendReads(l []int, e api.Expr) []int {
	if e.Op == api.EVar && e.N >= 0 {
		l = append(l, e.N)
	}
	for _, a := range operands(e) {
		l = appendReads(l, a)
	}
	return l
}

func appendReadsC(l []int, c api.Cond) []int {
	exprs, conds := operandsC(c)
	for _, a := range exprs {
		l = appendReads(l, a)
	}
	for _, d := range conds {
		l = appendReadsC(l, d)
	}
	return l
}

func distinct(l []int) []int {
	slices.Sort(l)
	return slices.Compact(l)
}
