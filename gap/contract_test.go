package gap_test

import (
	"math"
	"testing"

	"parole/api"
	"parole/gap"
)

// P11.1, K1: all numbers of variables and parameters.
func TestNew(t *testing.T) {
	for vars := range api.MaxVars + 1 {
		for params := range vars + 1 {
			g := gap.New(vars, params)
			if len(g) != vars || !gap.Valid(g, vars, params) {
				t.Fatalf("New(%d, %d) is %v", vars, params, g)
			}
			for v := range vars {
				if len(g[v]) != params {
					t.Fatalf("New(%d, %d) is %v", vars, params, g)
				}
				for p := range params {
					if v == p && g[v][p] != 0 || v != p && g[v][p] != no {
						t.Fatalf("New(%d, %d) is %v", vars, params, g)
					}
				}
			}
		}
	}
}

// P11.1, K1: both sides of the limits, at each place.
func TestValidNumbers(t *testing.T) {
	for v := range 3 {
		for p := range 2 {
			for _, c := range []struct {
				n  int
				is bool
			}{
				{0, true}, {-1, true}, {far - 1, true}, {far, true}, {far + 1, false}, {1 - far, true}, {-far, true}, {-far - 1, false}, {no, true}, {no - 1, false}, {no + 1, false}, {-no, false}, {1 << 35, false}, {math.MaxInt, false}, {math.MinInt, false},
			} {
				g := [][]int{{0, no}, {-5, 0}, {7, far}}
				g[v][p] = c.n
				if gap.Valid(g, 3, 2) != c.is {
					t.Errorf("%v is valid: %t", g, !c.is)
				}
			}
		}
	}
}

// P11.1, K1: as many lists, and as many numbers in each, as there should be.
func TestValidShapes(t *testing.T) {
	for i, c := range []struct {
		g            [][]int
		vars, params int
		is           bool
	}{
		{nil, 0, 0, true}, {[][]int{}, 0, 0, true}, {nil, 0, 3, true}, {nil, 1, 0, false}, {nil, -1, 0, false}, {nil, math.MaxInt, 0, false}, {nil, math.MinInt, math.MinInt, false},
		{[][]int{nil}, 1, 0, true}, {[][]int{{}}, 1, 0, true}, {[][]int{nil}, 0, 0, false}, {[][]int{nil}, 1, 1, false}, {[][]int{nil}, 1, -1, false}, {[][]int{nil, {}}, 2, 0, true}, {[][]int{nil, nil}, 1, 0, false},
		{[][]int{{1}, {2}, {3}}, 3, 1, true}, {[][]int{{1}, {2}, {3}}, 2, 1, false}, {[][]int{{1}, {2}, {3}}, 4, 1, false}, {[][]int{{1}, {2}, {3}}, 3, 0, false}, {[][]int{{1}, {2}, {3}}, 3, 2, false}, {[][]int{{1}, {2}, {3}}, 1, 3, false},
		{[][]int{{1}, {2}, {}}, 3, 1, false}, {[][]int{{1}, {2, 2}, {3}}, 3, 1, false}, {[][]int{nil, {2}, {3}}, 3, 1, false}, {[][]int{{1, 2}, {3}}, 2, 2, false}, {[][]int{{1}, {3, 2}}, 2, 2, false}, {[][]int{{1, 2}, {3, 4}}, 2, 2, true},
	} {
		if gap.Valid(c.g, c.vars, c.params) != c.is {
			t.Errorf("case %d: %v is valid for %d and %d: %t", i, c.g, c.vars, c.params, !c.is)
		}
	}
}

// P11.1, K2: both sides of each number.
func TestHas(t *testing.T) {
	for i, c := range []struct {
		g      [][]int
		values []int
		is     bool
	}{
		{nil, nil, true}, {gap.New(2, 0), []int{lo, hi}, true}, {gap.New(3, 2), []int{hi, lo, hi}, true}, {[][]int{{0}}, []int{hi}, true}, {[][]int{{-1}}, []int{7}, false},
		{[][]int{{0, 4}, {-4, 0}}, []int{9, 5}, true}, {[][]int{{0, 4}, {-4, 0}}, []int{10, 5}, false}, {[][]int{{0, 4}, {-4, 0}}, []int{8, 5}, false}, {[][]int{{0, no}, {-4, 0}}, []int{10, 5}, true}, {[][]int{{0, 4}, {no, 0}}, []int{8, 5}, true},
		{[][]int{{0}, {no}, {3}}, []int{5, hi, 8}, true}, {[][]int{{0}, {no}, {3}}, []int{5, hi, 9}, false}, {[][]int{{0}, {no}, {-3}}, []int{5, lo, 2}, true}, {[][]int{{0}, {no}, {-3}}, []int{5, lo, 3}, false},
		{[][]int{{0}, {1<<32 - 1}}, []int{lo, hi}, true}, {[][]int{{0}, {1<<32 - 2}}, []int{lo, hi}, false}, {[][]int{{0}, {1 - 1<<32}}, []int{hi, lo}, true}, {[][]int{{0}, {-1 << 32}}, []int{hi, lo}, false}, {[][]int{{0}, {far}}, []int{lo, hi}, true}, {[][]int{{0}, {-far}}, []int{hi, lo}, false},
	} {
		if gap.Has(c.g, c.values) != c.is {
			t.Errorf("case %d: %v has %v: %t", i, c.g, c.values, !c.is)
		}
	}
}

// P11.1, K2.
func TestHasAgainstModel(t *testing.T) {
	m, held := newMaker(1), 0
	for range 50000 {
		vars, params := m.size()
		values := m.values(vars)
		g := m.around(values, params)
		if vars > 0 && m.r.Intn(2) == 0 {
			values[m.r.Intn(vars)] = m.value()
		}
		is := true
		for v := range vars {
			for p := range params {
				is = is && values[v] <= values[p]+g[v][p]
			}
		}
		if gap.Has(g, values) != is {
			t.Fatalf("%v has %v: %t", g, values, !is)
		}
		if is {
			held++
		}
	}
	if held < 10000 || held > 45000 {
		t.Errorf("%d have the values", held)
	}
}

// P11.1, K2: numbers that there are, and others.
func TestBound(t *testing.T) {
	g := [][]int{{0, 11}, {-22, 0}, {far, no}}
	for v := range g {
		for p := range g[v] {
			if n := gap.Bound(g, v, p); n != g[v][p] {
				t.Errorf("Bound(%d, %d) is %d", v, p, n)
			}
		}
	}
	for _, c := range [][2]int{{-1, 0}, {3, 0}, {0, -1}, {0, 2}, {2, 2}, {3, 2}, {-1, -1}, {math.MinInt, 0}, {math.MaxInt, 1}, {1, math.MinInt}, {1, math.MaxInt}, {1 << 32, 0}, {0, 1 << 32}} {
		if n := gap.Bound(g, c[0], c[1]); n != no {
			t.Errorf("Bound(%d, %d) is %d", c[0], c[1], n)
		}
	}
	if gap.Bound(nil, 0, 0) != no || gap.Bound(gap.New(2, 0), 1, 0) != no {
		t.Error("bounds where there are none")
	}
}

// P11.1, K5: pairs of numbers.
func TestJoinLeqWiden(t *testing.T) {
	for _, c := range []struct {
		a, b, join, widen int
		is                bool
	}{
		{0, 0, 0, 0, true}, {0, 1, 1, no, true}, {1, 0, 1, 1, false}, {-1, -2, -1, -1, false}, {-2, -1, -1, no, true}, {-3, 3, 3, no, true}, {no, no, no, no, true}, {no, 5, no, no, false}, {5, no, no, no, true}, {no, far, no, no, false}, {far, no, no, no, true}, {-far, far, far, no, true}, {far, -far, far, far, false}, {far, far - 1, far, far, false}, {-far, -far, -far, -far, true}, {-far, no, no, no, true},
	} {
		for v := range 3 {
			for p := range 2 {
				g, h := [][]int{{0, no}, {-7, 0}, {4, 4}}, [][]int{{0, no}, {-7, 0}, {4, 4}}
				join, widen := copyOf(g), copyOf(g)
				g[v][p], h[v][p], join[v][p], widen[v][p] = c.a, c.b, c.join, c.widen
				if j := gap.Join(g, h); !isSame(j, join) {
					t.Errorf("Join(%v, %v) is %v", g, h, j)
				}
				if w := gap.Widen(g, h); !isSame(w, widen) {
					t.Errorf("Widen(%v, %v) is %v", g, h, w)
				}
				if gap.Leq(g, h) != c.is {
					t.Errorf("Leq(%v, %v) is %t", g, h, !c.is)
				}
			}
		}
	}
	if len(gap.Join(nil, nil)) != 0 || len(gap.Widen(nil, nil)) != 0 || !gap.Leq(nil, nil) || !isSame(gap.Join(gap.New(2, 0), gap.New(2, 0)), [][]int{nil, nil}) {
		t.Error("without variables or parameters")
	}
}

// P11.1, K5.
func TestLatticeAgainstModel(t *testing.T) {
	m, smaller := newMaker(2), 0
	for range 30000 {
		vars, params := m.size()
		g, h := m.gaps(vars, params), m.gaps(vars, params)
		if m.r.Intn(2) == 0 {
			h = m.above(g)
		}
		join, widen, is := copyOf(g), copyOf(g), true
		for v := range vars {
			for p := range params {
				if h[v][p] > g[v][p] {
					join[v][p], widen[v][p] = h[v][p], no
				} else if h[v][p] < g[v][p] {
					is = false
				}
			}
		}
		if !isSame(gap.Join(g, h), join) || !isSame(gap.Widen(g, h), widen) || gap.Leq(g, h) != is {
			t.Fatalf("%v and %v: %v, %v, %t", g, h, gap.Join(g, h), gap.Widen(g, h), gap.Leq(g, h))
		}
		if is {
			smaller++
		}
	}
	if smaller < 10000 {
		t.Errorf("%d are at most the other ones", smaller)
	}
}
