package gap_test

import (
	"testing"

	"parole/api"
	"parole/gap"
)

// P11.1, K4: w is variable 2, and u variable 1, unless a case says otherwise.
func TestAssume(t *testing.T) {
	g := [][]int{{0, 2}, {6, 0}, {5, no}, {no, no}}
	for i, c := range []struct {
		op    int
		holds bool
		a, b  api.Expr
		want  [][]int
	}{
		{api.CLt, true, variable(2), variable(1), changed(g, 2, 5, -1)}, {api.CLe, true, variable(2), variable(1), changed(g, 2, 5, 0)}, {api.CLt, false, variable(1), variable(2), changed(g, 2, 5, 0)}, {api.CLe, false, variable(1), variable(2), changed(g, 2, 5, -1)},
		{api.CLt, true, variable(2), variable(0), changed(g, 2, -1, 1)}, {api.CLe, true, variable(2), variable(0), changed(g, 2, 0, 2)}, {api.CLt, false, variable(0), variable(2), changed(g, 2, 0, 2)}, {api.CLe, false, variable(0), variable(2), changed(g, 2, -1, 1)},
		{api.CLt, true, variable(3), variable(2), changed(g, 3, 4, no)}, {api.CLt, false, variable(2), variable(3), changed(g, 3, 5, no)}, {api.CLt, true, variable(2), variable(3), g}, {api.CLe, false, variable(3), variable(2), g}, {api.CEq, false, variable(2), variable(1), g}, {api.CEq, false, variable(2), plus(2, 1), g},
		{api.CLt, true, plus(2, 3), plus(1, 1), changed(g, 2, 3, -3)}, {api.CLt, true, plusTurned(2, 3), minus(1, 1), changed(g, 2, 3, -3)}, {api.CLe, true, minus(2, 3), plusTurned(1, 1), changed(g, 2, 4, -2)}, {api.CLt, false, plus(1, 1), plus(2, 3), changed(g, 2, 4, -2)}, {api.CLe, false, plus(1, 1), plus(2, 3), changed(g, 2, 3, -3)}, {api.CLe, true, plus(2, -3), variable(1), changed(g, 2, 5, 3)}, {api.CLe, true, variable(2), plus(1, -7), changed(g, 2, -1, -7)},
		{api.CEq, true, variable(2), variable(1), changed(changed(g, 1, 5, 0), 2, 5, 0)}, {api.CEq, true, variable(1), variable(2), changed(changed(g, 1, 5, 0), 2, 5, 0)}, {api.CEq, true, variable(3), variable(2), changed(g, 3, 5, no)}, {api.CEq, true, variable(2), variable(3), changed(g, 3, 5, no)}, {api.CEq, true, plus(2, 3), plus(1, 1), changed(g, 2, 4, -2)}, {api.CEq, true, plus(1, 1), plus(2, 3), changed(g, 2, 4, -2)}, {api.CEq, true, plus(2, 1), plus(1, 3), changed(changed(g, 1, 3, 0), 2, 5, 2)},
		{api.CLt, true, variable(1), variable(0), changed(g, 1, -1, 0)}, {api.CLt, true, variable(0), variable(1), changed(g, 0, 0, -1)}, {api.CEq, true, variable(0), variable(1), changed(changed(g, 0, 0, 0), 1, 0, 0)},
		{api.CLt, true, variable(2), variable(2), changed(g, 2, 4, no)}, {api.CLe, true, variable(2), variable(2), g}, {api.CEq, true, variable(2), variable(2), g}, {api.CLe, true, plus(2, 2), variable(2), changed(g, 2, 3, no)}, {api.CLe, true, variable(2), plus(2, 2), g}, {api.CEq, true, plus(2, 2), variable(2), changed(g, 2, 3, no)}, {api.CEq, true, variable(2), plus(2, 2), changed(g, 2, 3, no)}, {api.CLt, false, variable(2), plus(2, 2), changed(g, 2, 3, no)},
	} {
		if h := gap.Assume(g, c.op, c.holds, c.a, c.b, whole); !isSame(h, c.want) {
			t.Errorf("case %d: %v, not %v", i, h, c.want)
		}
		for _, l := range notWhole {
			if h := gap.Assume(g, c.op, c.holds, c.a, c.b, l); !isSame(h, g) {
				t.Errorf("case %d, not whole: %v", i, h)
			}
		}
	}
}

// P11.1, K4: both directions of an equality follow from the gaps that are given, so that none of them adds to the other one.
func TestAssumeEqualFromGiven(t *testing.T) {
	g := [][]int{{0, 9, no}, {no, 0, 4}, {8, no, 0}}
	for _, e := range [][2]api.Expr{{variable(1), variable(2)}, {variable(2), variable(1)}, {plus(1, 5), minus(2, 5)}} {
		if h := gap.Assume(g, api.CEq, true, e[0], e[1], whole); !isSame(h, [][]int{{0, 9, no}, {8, 0, 0}, {8, 0, 0}}) {
			t.Errorf("%v: %v", e, h)
		}
	}
	for _, n := range []int{-2, 2} {
		g := [][]int{{0}, {7}}
		if h := gap.Assume(g, api.CEq, true, plus(1, n), variable(1), whole); !isSame(h, [][]int{{0}, {5}}) {
			t.Errorf("by %d: %v", n, h)
		}
	}
}

// P11.1, K4: operators that are no comparisons, and sides that are no shifts.
func TestAssumeNothing(t *testing.T) {
	g := [][]int{{0, 2}, {6, 0}, {5, no}}
	for _, holds := range []bool{true, false} {
		for _, op := range noComparisons {
			if h := gap.Assume(g, op, holds, variable(2), variable(0), whole); !isSame(h, g) {
				t.Errorf("operator %d, %t: %v", op, holds, h)
			}
		}
		for _, op := range comparisons {
			for i, e := range noShifts() {
				for _, f := range []api.Expr{variable(2), plus(0, -3), e} {
					if h := gap.Assume(g, op, holds, e, f, whole); !isSame(h, g) {
						t.Errorf("case %d, operator %d, %t: %v", i, op, holds, h)
					}
					if h := gap.Assume(g, op, holds, f, e, whole); !isSame(h, g) {
						t.Errorf("case %d turned, operator %d, %t: %v", i, op, holds, h)
					}
				}
			}
		}
	}
	if len(gap.Assume(nil, api.CLt, true, variable(0), variable(0), whole)) != 0 || !isSame(gap.Assume([][]int{nil}, api.CEq, true, variable(0), variable(0), whole), [][]int{nil}) {
		t.Error("without variables or parameters")
	}
}

// P11.1 and P11.7, K4: sums on both sides of their limits. Those that are beyond say nothing.
func TestAssumeAtLimits(t *testing.T) {
	for i, c := range []struct {
		from, to int
		a, b     api.Expr
		want     int
	}{
		{-far, 3, variable(1), variable(2), 3}, {1 - far, 3, variable(1), variable(2), -far}, {-far, no, variable(1), variable(2), no}, {far, no, variable(1), variable(2), far - 1}, {no, no, variable(1), variable(2), no}, {no, far, variable(1), variable(2), far}, {no, -far, variable(1), variable(2), -far},
		{far, no, variable(1), plus(2, 1), far}, {far, no, variable(1), plus(2, 2), no}, {far, 7, variable(1), plus(2, 2), 7}, {far, far, variable(1), plus(2, 2), far},
		{0, no, variable(1), plus(2, hi+1), hi}, {0, no, variable(1), plus(2, lo), lo - 1}, {0, no, plus(1, hi+1), plus(2, lo), -1<<32 - 1}, {0, no, plus(1, lo), plus(2, hi+1), 1<<32 - 1}, {0, no, minus(1, lo), minus(2, hi+1), 1<<32 - 1}, {0, no, variable(1), plus(2, hi+2), no}, {0, no, plus(1, lo-1), variable(2), no},
		{1<<32 + 1 - far, no, plus(1, hi+1), plus(2, lo), -far}, {1<<32 - far, no, plus(1, hi+1), plus(2, lo), no}, {far - 1<<32 + 1, no, plus(1, lo), plus(2, hi+1), far}, {far - 1<<32 + 2, no, plus(1, lo), plus(2, hi+1), no}, {no, no, plus(1, hi+1), plus(2, lo), no},
	} {
		g := [][]int{{0}, {c.to}, {c.from}}
		if h := gap.Assume(g, api.CLt, true, c.a, c.b, whole); !isSame(h, changed(g, 1, c.want)) {
			t.Errorf("case %d: %v", i, h)
		}
		if h := gap.Assume(g, api.CLe, false, c.b, c.a, whole); !isSame(h, changed(g, 1, c.want)) {
			t.Errorf("case %d, the other way round: %v", i, h)
		}
	}
}

// modelSays returns what K4 says: lists {x, y, k} of x - y <= k.
func modelSays(op int, holds bool, w, c, u, d int) [][3]int {
	switch {
	case op == api.CLt && holds:
		return [][3]int{{w, u, d - c - 1}}
	case op == api.CLe && holds:
		return [][3]int{{w, u, d - c}}
	case op == api.CEq && holds:
		return [][3]int{{w, u, d - c}, {u, w, c - d}}
	case op == api.CLt: // the opposite is b <= a
		return modelSays(api.CLe, true, u, d, w, c)
	case op == api.CLe: // and b < a
		return modelSays(api.CLt, true, u, d, w, c)
	}
	return nil
}

// modelAssume is what K4 says.
func modelAssume(g [][]int, op int, holds bool, a, b api.Expr, l [2]bool) [][]int {
	h := copyOf(g)
	w, c, isA := modelShift(a, len(g))
	u, d, isB := modelShift(b, len(g))
	if !l[0] || !l[1] || !isA || !isB {
		return h
	}
	for _, s := range modelSays(op, holds, w, c, u, d) {
		for p := range h[s[0]] {
			if n := modelSum(g[s[1]][p], s[2]); n < h[s[0]][p] {
				h[s[0]][p] = n
			}
		}
	}
	return h
}

// P11.1, K4.
func TestAssumeAgainstModel(t *testing.T) {
	m, less := newMaker(4), 0
	for range 200000 {
		vars, params := m.size()
		g, op, holds, a, b := m.gaps(vars, params), comparisons[m.r.Intn(3)], m.r.Intn(2) == 0, m.expr(vars), m.expr(vars)
		if m.r.Intn(10) == 0 {
			op = noComparisons[m.r.Intn(len(noComparisons))]
		}
		l := [2]bool{m.r.Intn(8) > 0, m.r.Intn(8) > 0}
		h := gap.Assume(g, op, holds, a, b, l)
		if want := modelAssume(g, op, holds, a, b, l); !isSame(h, want) {
			t.Fatalf("Assume(%v, %d, %t, %v, %v, %v) is %v, not %v", g, op, holds, a, b, l, h, want)
		}
		if !isSame(h, g) {
			less++
		}
	}
	if less < 20000 {
		t.Errorf("only %d say something", less)
	}
}
