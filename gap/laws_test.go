package gap_test

import (
	"slices"
	"testing"

	"parole/api"
	"parole/gap"
	"parole/num"
)

// P11.2: any expressions, of which whole says so only where they do not wrap around.
func TestAssignments(t *testing.T) {
	m, exact := newMaker(5), 0
	for range 200000 {
		vars, params := m.size()
		if params == vars {
			continue
		}
		values, e, v := m.values(vars), m.expr(vars), params+m.r.Intn(vars-params)
		g := m.around(values, params)
		is := staysExact(e, values) && m.r.Intn(8) > 0
		after := slices.Clone(values)
		after[v] = num.Eval(e, values, nil)
		h := gap.Set(g, v, e, is)
		if !gap.Has(g, values) || !gap.Has(h, after) {
			t.Fatalf("%v are within %v, but %v not within Set(%d, %v, %t), %v", values, g, after, v, e, is, h)
		}
		if params > 0 && h[v][0] == after[v]-after[0] {
			exact++
		}
	}
	if exact < 5000 {
		t.Errorf("only %d bounds are exact", exact)
	}
}

// P11.2: an expression that is no shift is never taken for one, whatever whole says.
func TestAssignmentsOfOthers(t *testing.T) {
	m := newMaker(6)
	for range 2000 {
		values := m.values(3)
		g := m.around(values, 2)
		for _, e := range noShifts() {
			after := []int{values[0], values[1], num.Eval(e, values, m.values(2))}
			if h := gap.Set(g, 2, e, true); !gap.Has(h, after) {
				t.Fatalf("%v are not within Set(%v, 2, %v, true), %v", after, g, e, h)
			}
		}
	}
}

// P11.3.
func TestConditions(t *testing.T) {
	m, less := newMaker(7), 0
	for range 300000 {
		vars, params := m.size()
		values, a, b := m.values(vars), m.expr(vars), m.expr(vars)
		g, op := m.around(values, params), comparisons[m.r.Intn(3)]
		l := [2]bool{staysExact(a, values), staysExact(b, values)}
		holds := isTrue(op, a, b, values)
		h := gap.Assume(g, op, holds, a, b, l)
		if !gap.Has(h, values) || !gap.Leq(h, g) {
			t.Fatalf("%v are within %v, but not within Assume(%d, %t, %v, %v, %v), %v", values, g, op, holds, a, b, l, h)
		}
		if !isSame(h, g) {
			less++
		}
	}
	if less < 10000 {
		t.Errorf("only %d say something", less)
	}
}

// P11.3: all values, constants and comparisons near each other, with the least gaps that have the values.
func TestConditionsNearEachOther(t *testing.T) {
	for x := -2; x <= 2; x++ {
		for y := -2; y <= 2; y++ {
			g := [][]int{{0}, {x + 1}, {y + 1}}
			for c := -2; c <= 2; c++ {
				for d := -2; d <= 2; d++ {
					for _, op := range comparisons {
						values := []int{-1, x, y}
						h := gap.Assume(g, op, isTrue(op, plus(1, c), minus(2, d), values), plus(1, c), minus(2, d), whole)
						if !isSame(h, g) {
							t.Fatalf("%v, operator %d by %d and %d: %v", values, op, c, d, h)
						}
					}
				}
			}
		}
	}
}

// P11.3: what Assume returns is at most g, also for gaps and expressions without values.
func TestConditionsAreAtMost(t *testing.T) {
	m := newMaker(8)
	for range 50000 {
		vars, params := m.size()
		g := m.gaps(vars, params)
		for _, op := range append(comparisons, noComparisons[m.r.Intn(len(noComparisons))]) {
			if h := gap.Assume(g, op, m.r.Intn(2) == 0, m.expr(vars), m.expr(vars), whole); !gap.Leq(h, g) {
				t.Fatalf("%v is not at most %v", h, g)
			}
		}
	}
}

// P11.4.
func TestOrder(t *testing.T) {
	m := newMaker(9)
	for range 50000 {
		vars, params := m.size()
		g := m.gaps(vars, params)
		h := m.above(g)
		k := m.above(h)
		if !gap.Leq(g, g) || !gap.Leq(g, h) || !gap.Leq(h, k) || !gap.Leq(g, k) {
			t.Fatalf("%v, %v, %v", g, h, k)
		}
		if gap.Leq(h, g) != isSame(g, h) {
			t.Fatalf("Leq(%v, %v) is %t", h, g, gap.Leq(h, g))
		}
		if d := m.gaps(vars, params); gap.Leq(h, d) && !gap.Leq(g, d) || gap.Leq(d, g) && !gap.Leq(d, h) || gap.Leq(g, d) && gap.Leq(d, g) != isSame(g, d) {
			t.Fatalf("%v, %v, %v", g, h, d)
		}
	}
}

// P11.4.
func TestJoinIsLeast(t *testing.T) {
	m, upper := newMaker(10), 0
	for range 50000 {
		vars, params := m.size()
		g, h := m.gaps(vars, params), m.gaps(vars, params)
		j := gap.Join(g, h)
		if !gap.Leq(g, j) || !gap.Leq(h, j) {
			t.Fatalf("Join(%v, %v) is %v", g, h, j)
		}
		for _, k := range [][][]int{m.above(g), m.above(h), m.above(j), m.gaps(vars, params)} {
			is := gap.Leq(g, k) && gap.Leq(h, k)
			if is && !gap.Leq(j, k) {
				t.Fatalf("%v and %v are at most %v, Join is %v", g, h, k, j)
			}
			if is {
				upper++
			}
		}
		if !isSame(gap.Join(h, g), j) || !isSame(gap.Join(g, g), g) || !isSame(gap.Join(j, h), j) || isSame(j, h) != gap.Leq(g, h) {
			t.Fatalf("Join(%v, %v) is %v", g, h, j)
		}
		if k := m.gaps(vars, params); !isSame(gap.Join(j, k), gap.Join(g, gap.Join(h, k))) {
			t.Fatalf("%v, %v, %v", g, h, k)
		}
	}
	if upper < 50000 {
		t.Errorf("only %d are at least both", upper)
	}
}

// P11.4.
func TestSmallerGapsHaveFewerValues(t *testing.T) {
	m := newMaker(11)
	for range 50000 {
		vars, params := m.size()
		values := m.values(vars)
		g := m.around(values, params)
		h := m.above(g)
		if !gap.Has(h, values) || !gap.Has(gap.Join(g, m.gaps(vars, params)), values) || !gap.Has(gap.Widen(g, h), values) || !gap.Has(gap.Widen(m.gaps(vars, params), g), values) {
			t.Fatalf("%v are within %v, but not within greater gaps", values, g)
		}
		if other := m.values(vars); gap.Has(g, other) && !gap.Has(h, other) {
			t.Fatalf("%v are within %v, but not within %v", other, g, h)
		}
	}
}

// P11.5.
func TestWidening(t *testing.T) {
	m := newMaker(12)
	for range 3000 {
		vars, params := m.size()
		g := m.gaps(vars, params)
		changes := make([][12]int, vars)
		for range 30 {
			h := m.gaps(vars, params)
			if m.r.Intn(2) == 0 {
				h = m.above(g)
			}
			w := gap.Widen(g, h)
			if !gap.Leq(g, w) || !gap.Leq(h, w) {
				t.Fatalf("Widen(%v, %v) is %v", g, h, w)
			}
			if !isSame(gap.Widen(w, h), w) || !isSame(gap.Widen(w, g), w) {
				t.Fatalf("Widen(%v, ..) goes on", w)
			}
			for v := range w {
				for p := range w[v] {
					if w[v][p] != g[v][p] {
						changes[v][p]++
					}
					if changes[v][p] > 1 {
						t.Fatalf("%d of %d changes again, from %d to %d", v, p, g[v][p], w[v][p])
					}
				}
			}
			g = w
		}
	}
}

// P11.5: a bound that grows by 1 again and again, and one that does not.
func TestWideningOfLoop(t *testing.T) {
	g := [][]int{{0}, {3}, {-2}}
	for i := range 5 {
		h := gap.Set(g, 1, plus(1, 1), true)
		if g = gap.Widen(g, gap.Join(g, h)); !isSame(g, [][]int{{0}, {no}, {-2}}) {
			t.Fatalf("after %d: %v", i, g)
		}
	}
}

// P11.6: chains of all forms of shifts, through any variables.
func TestChainsOfShifts(t *testing.T) {
	m, long := newMaker(13), 0
	for range 20000 {
		vars := 2 + m.r.Intn(api.MaxVars-1)
		params := 1 + m.r.Intn(vars-1)
		g, w, total := gap.New(vars, params), m.r.Intn(params), 0
		p := w
		for range m.r.Intn(30) {
			c := []int{m.r.Intn(2001) - 1000, m.value(), lo, hi + 1}[m.r.Intn(4)]
			if total+c > far || total+c < -far {
				continue
			}
			v := params + m.r.Intn(vars-params)
			e := forms[m.r.Intn(3)](w, c)
			if c == 0 && m.r.Intn(2) == 0 {
				e = variable(w)
			}
			g, w, total = gap.Set(g, v, e, true), v, total+c
		}
		for q := range params {
			if n := gap.Bound(g, w, q); q == p && n != total || q != p && n != no {
				t.Fatalf("the bound of %d and %d is %d, after shifts of %d by %d", w, q, n, p, total)
			}
		}
		if total != 0 && w >= params {
			long++
		}
	}
	if long < 10000 {
		t.Errorf("only %d chains", long)
	}
}

// P11.7: the first sum out of the range is not known, nor is what follows from it.
func TestChainsBeyondLimits(t *testing.T) {
	for _, c := range []int{lo, hi + 1} {
		for _, form := range forms {
			g := gap.New(2, 1)
			g = gap.Set(g, 1, variable(0), true)
			for i := 1; i <= 8; i++ {
				if g = gap.Set(g, 1, form(1, c), true); g[1][0] != i*c {
					t.Fatalf("%d times %d: %v", i, c, g)
				}
			}
			for _, by := range []int{c, -c, -c, 0} {
				if g = gap.Set(g, 1, form(1, by), true); !isSame(g, [][]int{{0}, {no}}) {
					t.Fatalf("9 times %d, and %d: %v", c, by, g)
				}
			}
		}
	}
}

// P11.7: all results for valid gaps and any expressions.
func TestResultsAreValid(t *testing.T) {
	m := newMaker(14)
	for range 50000 {
		vars, params := m.size()
		g, h := m.gaps(vars, params), m.gaps(vars, params)
		results := [][][]int{gap.New(vars, params), gap.Join(g, h), gap.Widen(g, h)}
		for range 3 {
			results = append(results, gap.Set(g, m.r.Intn(vars+2)-1, m.expr(vars), m.r.Intn(4) > 0))
			for _, op := range append(comparisons, noComparisons[m.r.Intn(len(noComparisons))]) {
				results = append(results, gap.Assume(g, op, m.r.Intn(2) == 0, m.expr(vars), m.expr(vars), whole))
			}
		}
		for i, r := range results {
			if !gap.Valid(r, vars, params) || !isValid(r, vars, params) {
				t.Fatalf("result %d of %v and %v is %v", i, g, h, r)
			}
		}
	}
}

// isValid is what the chapter says of valid gaps.
func isValid(g [][]int, vars, params int) bool {
	isWrong := func(n int) bool { return n != no && (n < -far || n > far) }
	return len(g) == vars && !slices.ContainsFunc(g, func(l []int) bool { return len(l) != params || slices.ContainsFunc(l, isWrong) })
}

// The examples of the chapter, one after the other, and those of a loop that looks at its parameter.
func TestExamples(t *testing.T) {
	g := gap.New(3, 1)
	g = gap.Set(g, 1, plus(0, 2), true)
	g = gap.Set(g, 2, expr(api.ESub, variable(1), number(5)), true)
	if !isSame(g, [][]int{{0}, {2}, {-3}}) {
		t.Error(g)
	}
	if h := gap.Assume(g, api.CLt, true, variable(1), variable(0), whole); h[1][0] != -1 {
		t.Error(h)
	}
	if h := gap.Assume([][]int{{0}, {2}, {no}}, api.CLe, true, variable(2), variable(1), whole); h[2][0] != 2 {
		t.Error(h)
	}
	i := gap.Assume(gap.New(2, 1), api.CLt, true, variable(1), variable(0), whole)
	if gap.Bound(i, 1, 0) != -1 {
		t.Error(i)
	}
	if i = gap.Set(i, 1, plus(1, 1), true); gap.Bound(i, 1, 0) != 0 {
		t.Error(i)
	}
}
