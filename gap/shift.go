package gap

import "parole/api"

// A shift is the variable w plus c.
type shift struct{ w, c int }

// farthest is the greatest size of c: that of the least value, which may be subtracted, too.
const farthest = -api.MinInt

// shiftOf returns the shift of one of the variables that an expression is, and whether it is one.
func shiftOf(e api.Expr, vars int) (shift, bool) {
	s, ok := formOf(e)
	if !ok || s.w < 0 || s.w >= vars || s.c < -farthest || s.c > farthest {
		return shift{}, false
	}
	return s, true
}

// formOf looks at the form alone, whatever the numbers in it are. Elements of A beyond both operands have no meaning, as in layer 1.
func formOf(e api.Expr) (shift, bool) {
	if e.Op == api.EVar {
		return shift{e.N, 0}, true
	}
	if len(e.A) < 2 {
		return shift{}, false
	}
	a, b := e.A[0], e.A[1]
	switch [3]int{e.Op, a.Op, b.Op} {
	case [3]int{api.EAdd, api.EVar, api.ENum}:
		return shift{a.N, b.V}, true
	case [3]int{api.EAdd, api.ENum, api.EVar}:
		return shift{b.N, a.V}, true
	case [3]int{api.ESub, api.EVar, api.ENum}:
		return shift{a.N, -b.V}, true
	}
	return shift{}, false
}
