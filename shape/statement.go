package shape

import "parole/api"

// areStatements says whether all statements of a definition are right, but for what their sites have to do with each other.
func areStatements(d api.Def, x api.Decl) bool {
	limits, count := limitsOf(d, x), 0
	for depth, s := range statements(d.Body) {
		count++
		if count > api.MaxStmts || depth > api.MaxDepth || !isStatement(s, limits) {
			return false
		}
	}
	return true
}

func isStatement(s api.Stmt, limits []limit) bool {
	if !isId(s.Site) || s.Op < api.SSet || s.Op > api.SReturn {
		return false
	}
	k := kinds[s.Op]
	return limits[k.n].has(s.N) && limits[k.m].has(s.M) && limits[k.v].has(s.V) &&
		fieldsOf(s, k) == k.has && areOperands(s, k.has, limits)
}

// areOperands says whether what a statement has of expressions, conditions and references is right.
func areOperands(s api.Stmt, has fields, limits []limit) bool {
	return (!has.x || isExpr(s.X, limits)) &&
		(!has.y || isExpr(s.Y, limits)) &&
		(!has.c || isCond(s.C, limits)) &&
		areArgs(s.Args, limits) && arePtrs(s.Ptrs, limits)
}

func isExpr(x api.Expr, limits []limit) bool {
	m := measure{limits: limits}
	return m.expr(x, 1)
}

func isCond(c api.Cond, limits []limit) bool {
	m := measure{limits: limits}
	return m.cond(c, 1)
}

func areArgs(l []api.Expr, limits []limit) bool {
	return len(l) <= api.MaxVars && all(l, func(x api.Expr) bool { return isExpr(x, limits) })
}

func arePtrs(l []int, limits []limit) bool {
	return len(l) <= api.MaxRefs && all(l, limits[reference].has)
}
