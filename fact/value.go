package fact

import (
	"parole/api"
	"parole/span"
)

func zero() api.Abs { return span.Of(api.Word{}) }

// interval returns the set with all values between those of a, too.
func interval(a api.Abs) api.Abs { return span.In(api.Range{Lo: a.Lo, Hi: a.Hi, Mask: a.Mask}) }

func variable(f api.Fact, v int) api.Abs {
	if v < 0 || v >= len(f.V) {
		return zero()
	}
	return f.V[v]
}

// operand returns an operand of an expression or comparison; one that is missing is 0.
func operand(l []api.Expr, k int) api.Expr {
	if k >= len(l) {
		return api.Expr{Op: api.ENum}
	}
	return l[k]
}

func length(d api.Def, f api.Fact, array int) api.Abs {
	x := element(d.Arrays, array)
	if x.Of == 0 {
		return span.Of(api.Word{V: x.Len})
	}
	of := variable(f, x.Of-1)
	return span.In(api.Range{Lo: max(0, min(of.Lo, x.Len)), Hi: max(0, min(of.Hi, x.Len))})
}

// related returns the parameter in the place of a length that is exactly this parameter: gaps know parameters alone.
func related(d api.Def, f api.Fact, e api.Expr) api.Expr {
	if e.Op != api.ELen {
		return e
	}
	x := element(d.Arrays, e.N)
	of := variable(f, x.Of-1)
	if x.Of == 0 || of.Lo < 0 || of.Hi > x.Len {
		return e
	}
	return api.Expr{Op: api.EVar, N: x.Of - 1}
}

// A shift is the variable w plus c.
type shift struct{ w, c int }

// shiftOf returns the shift that an expression is, and whether it is one that does not wrap in f.
func shiftOf(f api.Fact, e api.Expr) (shift, bool) {
	s, ok := formOf(e)
	of := variable(f, s.w)
	if !ok || of.Lo+s.c < api.MinInt || of.Hi+s.c > api.MaxInt {
		return shift{}, false
	}
	return s, true
}

func formOf(e api.Expr) (shift, bool) {
	if e.Op == api.EVar {
		return shift{e.N, 0}, true
	}
	a, b := operand(e.A, 0), operand(e.A, 1)
	if e.Op == api.EAdd && a.Op == api.ENum {
		a, b = b, a
	}
	switch {
	case a.Op != api.EVar || b.Op != api.ENum:
		return shift{}, false
	case e.Op == api.EAdd:
		return shift{a.N, b.V}, true
	case e.Op == api.ESub:
		return shift{a.N, -b.V}, true
	}
	return shift{}, false
}
