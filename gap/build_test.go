package gap_test

import (
	"math"
	"math/rand"
	"slices"

	"parole/api"
	"parole/num"
)

const lo, hi, far, no = api.MinInt, api.MaxInt, 1 << 34, api.NoGap

// edges are the values at which differences are most likely to go wrong.
var edges = []int{lo, lo + 1, -1 << 30, -7, -2, -1, 0, 1, 2, 7, 1 << 30, hi - 1, hi}

// constants are those of shifts, beside others that are too large for one.
var constants = []int{math.MinInt, -1 << 62, -far, lo - 2, lo - 1, lo, lo + 1, -3, -1, 0, 1, 3, hi, hi + 1, hi + 2, far, 1 << 62, math.MaxInt}

// bounds are numbers of valid gaps.
var bounds = []int{-far, 1 - far, 2 - far, -1 << 33, -1<<32 - 1, -1 << 31, -2, -1, 0, 1, 2, 1 << 31, 1<<32 + 1, 1 << 33, far - 2, far - 1, far, no}

var comparisons = []int{api.CLt, api.CLe, api.CEq}

var noComparisons = []int{math.MinInt, -1, 0, api.CTrue, api.CNot, api.CAnd, api.COr, 8, 1<<32 + api.CLt, math.MaxInt}

var whole, notWhole = [2]bool{true, true}, [][2]bool{{true, false}, {false, true}, {false, false}}

func number(v int) api.Expr { return api.Expr{Op: api.ENum, V: v} }

func variable(n int) api.Expr { return api.Expr{Op: api.EVar, N: n} }

func length(n int) api.Expr { return api.Expr{Op: api.ELen, N: n} }

func expr(op int, operands ...api.Expr) api.Expr { return api.Expr{Op: op, A: operands} }

// plus and its two likes are the forms of a shift of w by c.
func plus(w, c int) api.Expr { return expr(api.EAdd, variable(w), number(c)) }

func plusTurned(w, c int) api.Expr { return expr(api.EAdd, number(c), variable(w)) }

func minus(w, c int) api.Expr { return expr(api.ESub, variable(w), number(-c)) }

var forms = []func(w, c int) api.Expr{plus, plusTurned, minus}

func isSame(g, h [][]int) bool { return slices.EqualFunc(g, h, slices.Equal[[]int]) }

func copyOf(g [][]int) [][]int {
	var c [][]int
	for _, l := range g {
		c = append(c, slices.Clone(l))
	}
	return c
}

// changed returns g with one list that is another one.
func changed(g [][]int, v int, l ...int) [][]int {
	c := copyOf(g)
	c[v] = l
	return c
}

func isValidNumber(n int) bool { return n == no || n >= -far && n <= far }

// A maker makes the same gaps, values and expressions whenever the tests run.
type maker struct{ r *rand.Rand }

func newMaker(seed int64) maker { return maker{rand.New(rand.NewSource(seed))} }

func (m maker) value() int {
	switch m.r.Intn(3) {
	case 0:
		return edges[m.r.Intn(len(edges))]
	case 1:
		return m.r.Intn(13) - 6
	}
	return int(int32(m.r.Uint32())) >> m.r.Intn(32)
}

func (m maker) values(n int) []int {
	l := make([]int, n)
	for i := range l {
		l[i] = m.value()
	}
	return l
}

func (m maker) bound() int {
	switch m.r.Intn(4) {
	case 0:
		return bounds[m.r.Intn(len(bounds))]
	case 1:
		return no
	case 2:
		return m.r.Intn(13) - 6
	}
	return m.r.Intn(2*far+1) - far
}

// size returns how many variables and parameters there are.
func (m maker) size() (int, int) {
	vars := 1 + m.r.Intn(5)
	if m.r.Intn(20) == 0 {
		vars = m.r.Intn(api.MaxVars + 1)
	}
	return vars, m.r.Intn(vars + 1)
}

func (m maker) gaps(vars, params int) [][]int {
	g := make([][]int, vars)
	for v := range g {
		g[v] = make([]int, params)
		for p := range g[v] {
			g[v][p] = m.bound()
		}
	}
	return g
}

// around returns gaps that the values are within, as often closely as not.
func (m maker) around(values []int, params int) [][]int {
	g := m.gaps(len(values), params)
	for v, l := range g {
		for p, n := range l {
			switch d := values[v] - values[p]; m.r.Intn(3) {
			case 0:
				l[p] = d
			case 1:
				l[p] = d + m.r.Intn(5)
			default:
				l[p] = max(n, d)
			}
		}
	}
	return g
}

// above returns gaps that are at least g.
func (m maker) above(g [][]int) [][]int {
	h := copyOf(g)
	for _, l := range h {
		for p := range l {
			if m.r.Intn(2) == 0 {
				l[p] = max(l[p], m.bound())
			}
		}
	}
	return h
}

func (m maker) shift(vars int) api.Expr {
	w, c := m.r.Intn(vars), m.r.Intn(9)-4
	switch m.r.Intn(6) {
	case 0:
		return variable(w)
	case 1:
		c = m.value()
	case 2:
		c = []int{lo, lo + 1, hi, hi + 1}[m.r.Intn(4)]
	}
	return forms[m.r.Intn(3)](w, c)
}

// expr makes shifts, and what is nearly one, or none.
func (m maker) expr(vars int) api.Expr {
	if vars > 0 && m.r.Intn(4) > 0 {
		return m.shift(vars)
	}
	leaf := func() api.Expr {
		return api.Expr{Op: 1 + m.r.Intn(3), N: m.r.Intn(vars+2) - 1, V: constants[m.r.Intn(len(constants))]}
	}
	e := leaf()
	if m.r.Intn(4) > 0 {
		e.Op = m.r.Intn(13) - 1
		for range []int{2, 2, 2, 2, 0, 1, 3}[m.r.Intn(7)] {
			e.A = append(e.A, leaf())
		}
	}
	return e
}

// staysExact returns whether an expression has its value without wrapping around: of what is not a shift it never says so.
func staysExact(e api.Expr, values []int) bool {
	w, c, ok := modelShift(e, len(values))
	return ok && values[w]+c >= lo && values[w]+c <= hi
}

// modelShift is what the chapter says of shifts: an expression is one if it is one of the forms for some variable and some constant.
func modelShift(e api.Expr, vars int) (int, int, bool) {
	for w := range vars {
		if e.Op == api.EVar && e.N == w {
			return w, 0, true
		}
		if e.Op != api.EAdd && e.Op != api.ESub || len(e.A) < 2 {
			continue
		}
		for i, a := range e.A[:2] {
			other := e.A[1-i]
			isOne := a.Op == api.ENum && a.V >= lo && a.V <= hi+1 && other.Op == api.EVar && other.N == w
			switch {
			case isOne && e.Op == api.EAdd:
				return w, a.V, true
			case isOne && i == 1:
				return w, -a.V, true
			}
		}
	}
	return 0, 0, false
}

// isTrue compares the values of two expressions as the machine does.
func isTrue(op int, a, b api.Expr, values []int) bool {
	return num.Holds(api.Cond{Op: op, A: []api.Expr{a, b}}, values, nil)
}
