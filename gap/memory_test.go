package gap_test

import (
	"math"
	"testing"

	"parole/api"
	"parole/gap"
)

// results returns what all functions make of two gaps.
func results(g, h [][]int, v int, a, b api.Expr) [][][]int {
	l := [][][]int{gap.Join(g, h), gap.Join(g, g), gap.Widen(g, h), gap.Widen(g, g), gap.Set(g, v, a, true), gap.Set(g, v, a, false), gap.Set(g, -1, a, true)}
	for _, op := range []int{api.CLt, api.CLe, api.CEq, api.CTrue} {
		for _, holds := range []bool{true, false} {
			l = append(l, gap.Assume(g, op, holds, a, b, whole), gap.Assume(g, op, holds, a, b, notWhole[0]))
		}
	}
	return l
}

// K6: the results share nothing with the arguments, nor their lists with each other.
func TestResultsAreNew(t *testing.T) {
	m := newMaker(15)
	for range 2000 {
		vars, params := m.size()
		g, h, a, b := m.gaps(vars, params), m.gaps(vars, params), m.expr(vars), m.expr(vars)
		g2, h2 := copyOf(g), copyOf(h)
		for i, r := range append(results(g, h, m.r.Intn(vars+1), a, b), gap.New(vars, params)) {
			for v, l := range r {
				for p := range l {
					l[p] = 100 + v
				}
			}
			for _, l := range r {
				_ = append(l, -1)
			}
			for v, l := range r {
				for _, n := range l {
					if n != 100+v {
						t.Fatalf("the lists of result %d share memory: %v", i, r)
					}
				}
				r[v] = nil
			}
			if !isSame(g, g2) || !isSame(h, h2) {
				t.Fatalf("result %d shares memory with an argument", i)
			}
		}
	}
}

// K6.
func TestArgumentsStay(t *testing.T) {
	m, n := newMaker(16), newMaker(16)
	for range 2000 {
		vars, params := m.size()
		n.size()
		g, h, a, b, values := m.gaps(vars, params), m.gaps(vars, params), m.expr(vars), m.expr(vars), m.values(vars)
		g2, h2, a2, b2, values2 := n.gaps(vars, params), n.gaps(vars, params), n.expr(vars), n.expr(vars), n.values(vars)
		results(g, h, m.r.Intn(vars+1), a, b)
		n.r.Intn(vars + 1)
		gap.Valid(g, vars, params)
		gap.Has(g, values)
		gap.Bound(g, 0, 0)
		gap.Leq(g, h)
		if !isSame(g, g2) || !isSame(h, h2) || !isSame([][]int{values}, [][]int{values2}) || !isSameExpr(a, a2) || !isSameExpr(b, b2) {
			t.Fatal("an argument has changed")
		}
	}
}

func isSameExpr(a, b api.Expr) bool {
	if a.Op != b.Op || a.N != b.N || a.V != b.V || len(a.A) != len(b.A) {
		return false
	}
	for i := range a.A {
		if !isSameExpr(a.A[i], b.A[i]) {
			return false
		}
	}
	return true
}

// LANGUAGE.md: all calls end without a panic, also for gaps that are not valid, or do not fit.
func TestOddGaps(t *testing.T) {
	m := newMaker(17)
	numbers := []int{math.MinInt, -1 << 62, -no, -far - 1, -2, -1, 0, 1, 2, 3, 12, 13, far + 1, no - 1, no, no + 1, 1 << 62, math.MaxInt}
	odd := func() int { return numbers[m.r.Intn(len(numbers))] }
	ragged := func() [][]int {
		var g [][]int
		for range m.r.Intn(5) {
			var l []int
			for range m.r.Intn(5) {
				l = append(l, odd())
			}
			g = append(g, l)
		}
		return g
	}
	for range 100000 {
		g, h, vars, params := ragged(), ragged(), odd(), odd()
		if n := gap.New(vars, params); len(n) != 0 && len(n) != vars {
			t.Fatalf("New(%d, %d) is %v", vars, params, n)
		}
		if gap.Valid(g, vars, params) != isValid(g, vars, params) || gap.Valid(g, len(g), params) != isValid(g, len(g), params) {
			t.Fatalf("%v is valid for %d and %d: %t", g, vars, params, gap.Valid(g, vars, params))
		}
		values := m.values(m.r.Intn(6))
		for i := range values {
			if m.r.Intn(3) == 0 {
				values[i] = odd()
			}
		}
		gap.Has(g, values)
		gap.Bound(g, odd(), odd())
		gap.Leq(g, h)
		results(g, h, odd(), m.expr(len(g)), m.expr(len(g)))
		gap.Assume(g, odd(), true, m.expr(4), m.expr(4), whole)
	}
}
