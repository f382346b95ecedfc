package gap_test

import (
	"math"
	"testing"

	"parole/api"
	"parole/gap"
)

// P11.1, K3.
func TestSet(t *testing.T) {
	g := [][]int{{0, no}, {4, 0}, {5, -3}, {no, far}}
	for i, c := range []struct {
		v    int
		e    api.Expr
		want []int
	}{
		{2, variable(0), []int{0, no}}, {2, variable(1), []int{4, 0}}, {2, variable(2), []int{5, -3}}, {2, variable(3), []int{no, far}}, {3, variable(2), []int{5, -3}},
		{3, plus(2, 4), []int{9, 1}}, {3, plus(2, -4), []int{1, -7}}, {3, plusTurned(2, 4), []int{9, 1}}, {3, plusTurned(2, -4), []int{1, -7}}, {3, minus(2, 4), []int{9, 1}}, {3, minus(2, -4), []int{1, -7}}, {3, plus(2, 0), []int{5, -3}}, {3, minus(2, 0), []int{5, -3}},
		{2, plus(2, 1), []int{6, -2}}, {2, minus(2, -1), []int{4, -4}}, {3, plusTurned(3, -2), []int{no, far - 2}},
		{0, plus(2, 1), []int{6, -2}}, {0, plus(0, 1), []int{1, no}}, {1, variable(0), []int{0, no}},
	} {
		if h := gap.Set(g, c.v, c.e, true); !isSame(h, changed(g, c.v, c.want...)) {
			t.Errorf("case %d: %v", i, h)
		}
		if h := gap.Set(g, c.v, c.e, false); !isSame(h, changed(g, c.v, no, no)) {
			t.Errorf("case %d, not whole: %v", i, h)
		}
	}
}

// P11.1, K3: what a shift has no use for has no meaning.
func TestSetUnused(t *testing.T) {
	g := [][]int{{0}, {3}, {no}}
	more := []api.Expr{variable(0), number(9), plus(0, 1)}
	for i, e := range []api.Expr{
		{Op: api.EVar, N: 1, V: 7, A: more},
		{Op: api.EAdd, N: 2, V: 7, A: []api.Expr{variable(1), number(0)}},
		{Op: api.EAdd, A: []api.Expr{{Op: api.EVar, N: 1, V: 7, A: more}, {Op: api.ENum, N: 1, A: more}}},
		{Op: api.EAdd, A: []api.Expr{variable(1), number(0), variable(2)}},
		{Op: api.ESub, A: []api.Expr{variable(1), number(0), number(5)}},
	} {
		if h := gap.Set(g, 2, e, true); !isSame(h, changed(g, 2, 3)) {
			t.Errorf("case %d: %v", i, h)
		}
	}
}

// noShifts are no shifts of one of three variables.
func noShifts() []api.Expr {
	l := []api.Expr{
		{}, number(0), number(7), length(0), length(1), variable(-1), variable(3), variable(math.MinInt), variable(math.MaxInt), variable(1 << 32), plus(-1, 2), plus(3, 2), plusTurned(-1, 2), plusTurned(3, 2), minus(-1, 2), minus(3, 2), minus(1<<32, 2),
		expr(api.ESub, number(2), variable(1)), expr(api.EAdd, variable(1), variable(1)), expr(api.ESub, variable(1), variable(0)), expr(api.EAdd, number(1), number(1)), expr(api.ESub, number(1), number(1)), expr(api.EAdd, variable(1), length(0)), expr(api.EAdd, length(0), number(2)), expr(api.ESub, length(0), number(2)), expr(api.EAdd, length(0), variable(1)),
		expr(api.EAdd), expr(api.ESub), expr(api.EAdd, variable(1)), expr(api.ESub, variable(1)), expr(api.EAdd, number(1)), expr(api.EMul, variable(1), number(1)), expr(api.EDiv, variable(1), number(1)), expr(api.EMod, variable(1), number(5)), expr(api.EMin, variable(1), number(5)), expr(api.EMax, variable(1), number(5)), expr(api.EMax, variable(1), variable(1)),
		expr(api.EAdd, plus(1, 1), number(1)), expr(api.EAdd, number(1), plus(1, 1)), expr(api.ESub, minus(1, 1), number(1)), expr(api.EAdd, plus(1, 0), plus(1, 0)),
	}
	for _, op := range []int{math.MinInt, -1, 0, api.ENum, api.ELen, 11, 1<<32 + api.EAdd, math.MaxInt} {
		l = append(l, expr(op, variable(1), number(1)), expr(op, number(1), variable(1)), api.Expr{Op: op, N: 1})
	}
	for _, c := range []int{lo - 1, hi + 2, -1 << 32, 1 << 32, math.MaxInt, math.MinInt + 1} {
		l = append(l, plus(1, c), plusTurned(1, c), minus(1, c))
	}
	return append(l, plus(1, math.MinInt), plusTurned(1, math.MinInt), expr(api.ESub, variable(1), number(math.MinInt)))
}

// P11.1, K3.
func TestSetToNoShift(t *testing.T) {
	g := [][]int{{0, 1}, {2, 0}, {3, -4}}
	for i, e := range noShifts() {
		for v := range g {
			for _, is := range []bool{true, false} {
				if h := gap.Set(g, v, e, is); !isSame(h, changed(g, v, no, no)) {
					t.Errorf("case %d, variable %d: %v", i, v, h)
				}
			}
		}
	}
}

// P11.1, K3: without such a variable.
func TestSetOfNoVariable(t *testing.T) {
	g := [][]int{{0, 1}, {2, 0}, {3, -4}}
	for _, v := range []int{math.MinInt, -1, 3, 4, 1 << 32, math.MaxInt} {
		for _, e := range []api.Expr{variable(0), plus(2, 4), number(3), variable(v)} {
			for _, is := range []bool{true, false} {
				if h := gap.Set(g, v, e, is); !isSame(h, g) {
					t.Errorf("variable %d: %v", v, h)
				}
			}
		}
	}
	if len(gap.Set(nil, 0, variable(0), true)) != 0 || !isSame(gap.Set([][]int{nil}, 0, variable(0), true), [][]int{nil}) {
		t.Error("without variables or parameters")
	}
}

// P11.1 and P11.7, K3: constants and sums on both sides of their limits.
func TestSetAtLimits(t *testing.T) {
	for i, c := range []struct{ from, c, want int }{
		{0, lo, lo}, {0, hi + 1, 1 << 31}, {5, hi, 5 + hi}, {-5, lo, lo - 5}, {0, lo - 1, no}, {0, hi + 2, no},
		{far, 0, far}, {far, 1, no}, {far, -1, far - 1}, {far - 1, 1, far}, {far - 1, 2, no}, {far - hi - 1, hi + 1, far}, {far - hi, hi + 1, no}, {far, lo, far - 1<<31},
		{-far, 0, -far}, {-far, -1, no}, {-far, 1, 1 - far}, {1 - far, -1, -far}, {1 - far, -2, no}, {-far - lo, lo, -far}, {-far - lo - 1, lo, no}, {-far, hi + 1, 1<<31 - far},
		{no, 0, no}, {no, 1, no}, {no, -1, no}, {no, lo, no}, {no, hi + 1, no},
	} {
		for j, form := range forms {
			g := [][]int{{0}, {c.from}, {-9}}
			if h := gap.Set(g, 2, form(1, c.c), true); !isSame(h, changed(g, 2, c.want)) {
				t.Errorf("case %d, form %d: %v", i, j, h)
			}
		}
	}
}

// modelSum is what the chapter says of sums.
func modelSum(bound, n int) int {
	if s := bound + n; bound != no && s >= -far && s <= far {
		return s
	}
	return no
}

// modelSet is what K3 says.
func modelSet(g [][]int, v int, e api.Expr, whole bool) [][]int {
	h := copyOf(g)
	if v < 0 || v >= len(g) {
		return h
	}
	w, c, ok := modelShift(e, len(g))
	for p := range h[v] {
		h[v][p] = no
		if whole && ok {
			h[v][p] = modelSum(g[w][p], c)
		}
	}
	return h
}

// P11.1, K3.
func TestSetAgainstModel(t *testing.T) {
	m, known := newMaker(3), 0
	for range 100000 {
		vars, params := m.size()
		g, v, e, is := m.gaps(vars, params), m.r.Intn(vars+2)-1, m.expr(vars), m.r.Intn(5) > 0
		h := gap.Set(g, v, e, is)
		if want := modelSet(g, v, e, is); !isSame(h, want) {
			t.Fatalf("Set(%v, %d, %v, %t) is %v, not %v", g, v, e, is, h, want)
		}
		if v >= 0 && v < vars && params > 0 && h[v][0] != no {
			known++
		}
	}
	if known < 10000 {
		t.Errorf("only %d are known", known)
	}
}
