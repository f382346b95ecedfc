package fact_test

import (
	"slices"
	"testing"

	"parole/api"
	"parole/fact"
)

// With x from -10 to 100, at most n + 4, and y from 0 to 50, at most n - 2 and m + 30.
var x, y = variable(2), variable(3)

func xy() api.Fact {
	return wide(masked(between(-10, 100), 1), masked(between(0, 50), 4))
}

// became is a change of x, y, and their gaps.
func became(x, y api.Abs, gapX, gapY []int) api.Fact {
	return changed(wide(masked(x, 1), masked(y, 4)), func(f *api.Fact) { f.Gap[2], f.Gap[3] = gapX, gapY })
}

// P12.1, L4: comparisons.
func TestCompare(t *testing.T) {
	d, gx, gy, ax, ay := table(), []int{4, no}, []int{-2, 30}, between(-10, 100), between(0, 50)
	n, len0, len1, len2 := variable(0), length(0), length(1), length(2)
	for i, c := range []struct {
		c        api.Cond
		yes, not api.Fact
	}{
		{less(x, number(5)), became(between(-10, 4), ay, gx, gy), became(between(5, 100), ay, gx, gy)}, {atMost(x, number(5)), became(between(-10, 5), ay, gx, gy), became(between(6, 100), ay, gx, gy)}, {less(number(5), x), became(between(6, 100), ay, gx, gy), became(between(-10, 5), ay, gx, gy)}, {atMost(number(5), x), became(between(5, 100), ay, gx, gy), became(between(-10, 4), ay, gx, gy)},
		{equal(x, number(7)), became(one(7), ay, gx, gy), xy()}, {equal(number(7), x), became(one(7), ay, gx, gy), xy()}, {equal(x, number(-10)), became(one(-10), ay, gx, gy), became(between(-9, 100), ay, gx, gy)}, {equal(number(100), x), became(one(100), ay, gx, gy), became(between(-10, 99), ay, gx, gy)}, {equal(y, number(51)), dead, xy()},
		{less(x, number(-10)), dead, xy()}, {atMost(x, number(-10)), became(one(-10), ay, gx, gy), became(between(-9, 100), ay, gx, gy)}, {less(x, number(101)), xy(), dead}, {atMost(number(51), y), dead, xy()}, {less(number(3), number(4)), xy(), dead}, {less(number(4), number(4)), dead, xy()}, {equal(number(4), number(4)), xy(), dead},
		// x and y
		{less(x, y), became(between(-10, 49), ay, []int{-3, 29}, gy), became(between(0, 100), ay, gx, gy)}, {atMost(x, y), became(between(-10, 50), ay, []int{-2, 30}, gy), became(between(1, 100), ay, gx, gy)}, {less(y, x), became(between(1, 100), ay, gx, gy), became(between(-10, 50), ay, []int{-2, 30}, gy)}, {atMost(y, x), became(between(0, 100), ay, gx, gy), became(between(-10, 49), ay, []int{-3, 29}, gy)}, {equal(x, y), became(ay, ay, []int{-2, 30}, gy), xy()}, {equal(y, x), became(ay, ay, []int{-2, 30}, gy), xy()},
		// x twice: what is left of the second one counts
		{less(x, x), became(between(-9, 100), ay, []int{3, no}, gy), xy()}, {atMost(x, x), xy(), became(between(-10, 99), ay, []int{3, no}, gy)}, {equal(x, x), xy(), xy()},
		// sums keep their variables, but not their gaps
		{less(plus(2, 1), y), became(ax, ay, []int{-4, 28}, gy), xy()}, {atMost(plusTurned(2, 1), y), became(ax, ay, []int{-3, 29}, gy), xy()}, {less(x, minus(3, 2)), became(between(-10, 47), ay, []int{-5, 27}, gy), became(between(-2, 100), ay, gx, gy)}, {equal(minus(2, 3), plus(3, 1)), became(ax, ay, []int{2, 34}, gy), xy()},
		{less(expr(api.ESub, number(1), x), y), xy(), became(ax, between(0, 11), gx, gy)}, {less(expr(api.EAdd, x, x), y), became(ax, ay, gx, gy), xy()}, {less(expr(api.EMul, x, number(1)), y), xy(), xy()},
		// n, and the length that is exactly n, and others
		{less(x, n), became(between(-10, 7), ay, []int{-1, no}, gy), became(between(0, 100), ay, gx, gy)}, {less(x, len1), became(between(-10, 7), ay, []int{-1, no}, gy), became(between(0, 100), ay, gx, gy)}, {atMost(x, len1), became(between(-10, 8), ay, []int{0, no}, gy), became(between(1, 100), ay, gx, gy)}, {less(len1, x), became(between(1, 100), ay, gx, gy), became(between(-10, 8), ay, []int{0, no}, gy)}, {equal(len1, x), became(between(0, 8), ay, []int{0, no}, gy), xy()}, {less(plus(2, 2), len1), became(ax, ay, []int{-3, no}, gy), xy()},
		{less(x, len0), became(between(-10, 5), ay, gx, gy), became(between(6, 100), ay, gx, gy)}, {less(x, len2), became(between(-10, 63), ay, gx, gy), became(between(0, 100), ay, gx, gy)}, {less(len2, x), became(between(1, 100), ay, gx, gy), became(between(-10, 64), ay, gx, gy)}, {less(x, expr(api.EMin, len1, n)), became(between(-10, 7), ay, gx, gy), became(between(0, 100), ay, gx, gy)},
	} {
		if g := fact.Assume(d, xy(), c.c, true); !isSame(g, c.yes) {
			t.Errorf("case %d: %v, not %v", i, g, c.yes)
		}
		if g := fact.Assume(d, xy(), c.c, false); !isSame(g, c.not) {
			t.Errorf("case %d, if it does not hold: %v, not %v", i, g, c.not)
		}
	}
}

// P12.1, L4: parameters in comparisons, whose gaps follow from those of variables.
func TestCompareParameters(t *testing.T) {
	d := table()
	for i, c := range []struct {
		c    api.Cond
		n, g []int
	}{
		{less(variable(0), number(3)), []int{0, 2}, []int{0, no}}, {atMost(variable(0), y), []int{0, 8}, []int{-2, 30}}, {less(variable(0), y), []int{0, 8}, []int{-3, 29}}, {atMost(length(1), y), []int{0, 8}, []int{-2, 30}}, {less(length(1), y), []int{0, 8}, []int{-3, 29}}, {atMost(length(1), minus(3, 4)), []int{0, 8}, []int{-6, 26}}, {less(length(2), y), []int{0, 8}, []int{0, no}}, {less(number(5), length(1)), []int{0, 8}, []int{0, no}}, {atMost(number(5), variable(0)), []int{5, 8}, []int{0, no}},
	} {
		g := fact.Assume(d, xy(), c.c, true)
		if g.Dead || g.V[0] != between(c.n[0], c.n[1]) || !slices.Equal(g.Gap[0], c.g) {
			t.Errorf("case %d: %v", i, g)
		}
	}
}

// P12.1, L4: a length that is exactly a parameter, and those that are not, on both sides of the limits.
func TestCompareLengths(t *testing.T) {
	d := table()
	for i, c := range []struct {
		n  api.Abs
		is bool
	}{
		{between(0, 8), true}, {between(0, 9), false}, {between(-1, 8), false}, {between(-1, 9), false}, {between(1, 7), true}, {byStep(0, 8, 4), true}, {byStep(0, 9, 3), false}, {one(8), true}, {one(9), false}, {one(0), true}, {one(-1), false}, {between(lo, hi), false},
	} {
		f := changed(xy(), func(f *api.Fact) { f.V[0], f.Gap[2] = c.n, []int{no, no} })
		g := fact.Assume(d, f, atMost(x, length(1)), true)
		if want := map[bool]int{true: 0, false: no}[c.is]; g.Dead || g.Gap[2][0] != want || g.Gap[2][1] != no || g.V[0] != c.n {
			t.Errorf("case %d: %v", i, g)
		}
	}
}

// P12.1, L4: what wraps is not known of gaps, but of sets.
func TestCompareWhatWraps(t *testing.T) {
	d := table()
	for i, c := range []struct {
		x    api.Abs
		c    api.Cond
		want int
	}{
		{between(0, hi-1), atMost(plus(2, 1), y), -3}, {between(0, hi), atMost(plus(2, 1), y), 4}, {between(0, hi-1), less(plusTurned(2, 1), y), -4}, {between(0, hi), less(plusTurned(2, 1), y), 4}, {between(lo+1, 0), less(minus(2, 1), y), -2}, {between(lo, 0), less(minus(2, 1), y), 4}, {between(0, hi), less(x, y), -3}, {between(lo, -1), atMost(minus(2, lo), y), 4}, {between(lo, 0), atMost(minus(2, lo), y), 4},
	} {
		f := changed(xy(), func(f *api.Fact) { f.V[2] = masked(c.x, 1) })
		if i == 7 { // by 2^31, which makes a gap far below all others
			c.want = -2 - 1<<31
		}
		if g := fact.Assume(d, f, c.c, true); g.Dead || g.Gap[2][0] != c.want {
			t.Errorf("case %d: %v", i, g)
		}
	}
	f := changed(xy(), func(f *api.Fact) { f.V[3] = masked(between(0, hi), 4) })
	for i, c := range []struct {
		c    api.Cond
		want int
	}{{atMost(x, plus(3, 1)), 4}, {atMost(x, minus(3, 1)), -3}, {atMost(minus(2, 1), plus(3, 1)), 4}, {atMost(minus(2, 1), y), -1}} {
		if g := fact.Assume(d, f, c.c, true); g.Dead || g.Gap[2][0] != c.want {
			t.Errorf("case %d: %v", i, g)
		}
	}
}

// P12.1, L4: conditions of several parts. Sums of x and 0 take nothing from x, but may be impossible.
func TestAssume(t *testing.T) {
	d, never := table(), not(always)
	small, big, isBig := less(x, number(5)), less(number(40), x), less(number(20), plus(2, 0))
	of := func(first, last int) api.Fact {
		return became(between(first, last), between(0, 50), []int{4, no}, []int{-2, 30})
	}
	for i, c := range []struct {
		c        api.Cond
		yes, not api.Fact
	}{
		{always, xy(), dead}, {never, dead, xy()}, {not(never), xy(), dead}, {not(small), of(5, 100), of(-10, 4)}, {not(not(small)), of(-10, 4), of(5, 100)},
		{and(always, always), xy(), dead}, {and(always, never), dead, xy()}, {and(never, always), dead, xy()}, {or(always, never), xy(), dead}, {or(never, always), xy(), dead}, {or(never, never), dead, xy()}, {and(small, always), of(-10, 4), of(5, 100)}, {and(always, small), of(-10, 4), of(5, 100)}, {or(small, never), of(-10, 4), of(5, 100)}, {or(never, small), of(-10, 4), of(5, 100)}, {or(small, always), xy(), dead}, {and(small, never), dead, xy()},
		{and(small, atMost(number(0), x)), of(0, 4), of(-10, 100)}, {and(small, less(x, number(3))), of(-10, 2), of(3, 100)}, {and(less(x, number(3)), small), of(-10, 2), of(3, 100)}, {and(small, big), dead, xy()}, {or(small, big), xy(), of(5, 40)}, {or(big, small), xy(), of(5, 40)}, {or(small, less(x, number(8))), of(-10, 7), of(8, 100)}, {or(not(small), not(big)), xy(), dead}, {and(not(small), not(big)), of(5, 40), xy()},
		// the second part is asked where the first one holds, or does not
		{and(small, isBig), dead, xy()}, {and(isBig, small), of(-10, 4), xy()}, {and(small, not(isBig)), of(-10, 4), of(5, 100)}, {and(not(isBig), small), of(-10, 4), xy()}, {or(not(small), isBig), of(5, 100), of(-10, 4)}, {or(isBig, not(small)), xy(), of(-10, 4)}, {or(big, isBig), xy(), of(-10, 40)}, {or(not(small), not(isBig)), xy(), dead}, {or(small, isBig), xy(), of(5, 100)},
		{and(and(small, atMost(number(0), x)), not(equal(x, number(0)))), of(1, 4), of(-10, 100)}, {or(equal(x, number(2)), or(equal(x, number(4)), equal(x, number(8)))), became(byStep(2, 8, 2), between(0, 50), []int{4, no}, []int{-2, 30}), xy()},
	} {
		if g := fact.Assume(d, xy(), c.c, true); !isSame(g, c.yes) {
			t.Errorf("case %d: %v, not %v", i, g, c.yes)
		}
		if g := fact.Assume(d, xy(), c.c, false); !isSame(g, c.not) {
			t.Errorf("case %d, if it does not hold: %v, not %v", i, g, c.not)
		}
		for _, holds := range []bool{true, false} {
			if g := fact.Assume(d, dead, c.c, holds); !isSame(g, dead) {
				t.Errorf("case %d: %v", i, g)
			}
		}
	}
}

// P12.1, L4: references, arrays, locks and parts stay as they are.
func TestAssumeKeepsTheRest(t *testing.T) {
	d := table()
	a, _ := two()
	for _, c := range []api.Cond{always, less(variable(2), variable(0)), not(atMost(y, x)), and(less(x, number(9)), atMost(number(1), x)), or(less(x, number(1)), less(number(5), x)), equal(y, number(4))} {
		g := fact.Assume(d, a, c, true)
		if g.V, g.Gap = a.V, a.Gap; !isSame(g, a) {
			t.Errorf("%v: %v", c, g)
		}
	}
}

// isUnclear says whether a condition compares a sum or difference of a length and a number: L4 can be read so that the length is replaced there, too, or so that it is not.
func isUnclear(c api.Cond) bool {
	isSum := func(e api.Expr) bool {
		return (e.Op == api.EAdd || e.Op == api.ESub) && slices.ContainsFunc(e.A, func(a api.Expr) bool { return a.Op == api.ELen })
	}
	return slices.ContainsFunc(c.A, isSum) || slices.ContainsFunc(c.C, isUnclear)
}

// P12.1, L4.
func TestAssumeAgainstModel(t *testing.T) {
	m, some := newMaker(14), 0
	for range 60000 {
		d := m.def()
		f, c, holds := m.any(d), m.cond(d, 4), m.r.Intn(2) == 0
		if isUnclear(c) {
			continue
		}
		g := fact.Assume(d, f, c, holds)
		if want := modelAssume(d, f, c, holds); !isSame(g, want) {
			t.Fatalf("Assume(%v, %v, %v, %t) is %v, not %v", d, f, c, holds, g, want)
		}
		if !g.Dead && !isSame(g, f) {
			some++
		}
	}
	if some < 10000 {
		t.Errorf("only %d say something", some)
	}
}

// P12.5: any conditions, as they are for words within a fact.
func TestConditions(t *testing.T) {
	m, sets, gaps := newMaker(15), 0, 0
	for range 60000 {
		d := m.def()
		w := m.words(d)
		f := m.fact(d, w)
		for range 2 {
			c := m.cond(d, 1+m.r.Intn(4))
			holds := isTrue(d, w, c)
			g := fact.Assume(d, f, c, holds)
			if !fact.Has(d, g, w) {
				t.Fatalf("%v are within %v, but not within Assume(%v, %t), %v", w, f, c, holds, g)
			}
			if !fact.Leq(g, f) || !fact.Valid(d, g) {
				t.Fatalf("Assume(%v, %v, %t) is %v", f, c, holds, g)
			}
			if h := fact.Assume(d, f, c, !holds); !fact.Leq(h, f) || !fact.Valid(d, h) {
				t.Fatalf("Assume(%v, %v, %t) is %v", f, c, !holds, h)
			}
			if !slices.Equal(g.V, f.V) {
				sets++
			}
			if !isSameGap(g.Gap, f.Gap) {
				gaps++
			}
		}
	}
	if sets < 12000 || gaps < 6000 {
		t.Errorf("only %d sets and %d gaps say something", sets, gaps)
	}
}

// P12.5: all comparisons of near values, with the sets and gaps that have nothing else.
func TestConditionsNearEachOther(t *testing.T) {
	d := api.Def{Params: []api.Range{{}}, Vars: 3, Arrays: []api.Array{{Len: 2, Of: 1}}}
	sides := []api.Expr{variable(0), variable(1), variable(2), length(0), number(1), plus(1, 1), minus(2, 1), plusTurned(0, -1), expr(api.ESub, length(0), number(1)), expr(api.EAdd, number(-1), length(0))}
	for n := -1; n <= 3; n++ {
		for v := -2; v <= 2; v++ {
			for u := -2; u <= 2; u++ {
				w := []api.Word{{V: n}, {V: v}, {V: u}}
				exact := api.Fact{V: []api.Abs{one(n), one(v), one(u)}, Gap: [][]int{{0}, {v - n}, {u - n}}, Arr: []int{0}}
				wide := api.Fact{V: []api.Abs{between(n, 3), between(-2, v), between(u-1, u+1)}, Gap: [][]int{{0}, {v - n + 1}, {no}}, Arr: []int{0}}
				for _, a := range sides {
					for _, b := range sides {
						for _, op := range comparisons {
							c := compare(op, a, b)
							holds := isTrue(d, w, c)
							if g := fact.Assume(d, exact, c, holds); !isSame(g, exact) {
								t.Fatalf("%v, %v, %t: %v", w, c, holds, g)
							}
							if g := fact.Assume(d, exact, c, !holds); !g.Dead {
								t.Fatalf("%v, %v, %t: %v", w, c, !holds, g)
							}
							if g := fact.Assume(d, wide, c, holds); !fact.Has(d, g, w) || !fact.Leq(g, wide) {
								t.Fatalf("%v, %v, %t: %v", w, c, holds, g)
							}
						}
					}
				}
			}
		}
	}
}

// P1: conditions as deep and as large as layer 6 allows.
func TestDeepConditions(t *testing.T) {
	d, f := table(), xy()
	for _, op := range []int{api.CAnd, api.COr} {
		c := less(x, number(50))
		for i := range 8 {
			c = cond([]int{op, api.CAnd + api.COr - op}[i%2], c, less(x, number(49-i)))
		}
		for _, holds := range []bool{true, false} {
			if g := fact.Assume(d, f, c, holds); !isSame(g, modelAssume(d, f, c, holds)) {
				t.Errorf("operator %d, %t: %v", op, holds, g)
			}
		}
	}
}
