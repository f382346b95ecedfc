package span_test

import (
	"math/big"
	"math/rand"

	"parole/api"
	"parole/num"
)

const lo, hi = api.MinInt, api.MaxInt

// edges are the values at which operators are most likely to go wrong.
var edges = []int{lo, lo + 1, lo + 2, -1 << 16, -7, -2, -1, 0, 1, 2, 7, 1 << 16, hi - 2, hi - 1, hi}

var operators = []int{api.EAdd, api.ESub, api.EMul, api.EDiv, api.EMod, api.EMin, api.EMax}

var noOperators = []int{-1 << 63, lo, -1, 0, api.ENum, api.EVar, api.ELen, api.EMax + 1, 12, 1<<32 + api.EAdd, 1<<63 - 1}

var comparisons = []int{api.CLt, api.CLe, api.CEq}

var noComparisons = []int{-1 << 63, -1, 0, api.CTrue, api.CNot, api.CAnd, api.COr, 8, 1<<32 + api.CLt, 1<<63 - 1}

func masked(a api.Abs, mask int) api.Abs {
	a.Mask = mask
	return a
}

func word(v, mask int) api.Word { return api.Word{V: v, Mask: mask} }

func one(v int) api.Abs { return api.Abs{Lo: v, Hi: v, M: 1} }

// set returns the set from first to last by m; last is one of its values.
func set(first, last, m int) api.Abs {
	if first == last {
		return one(first)
	}
	return api.Abs{Lo: first, Hi: last, M: m, R: ((first % m) + m) % m}
}

// stepOf is what the chapter says of the step.
func stepOf(a api.Abs) int {
	if a.Lo == a.Hi {
		return 0
	}
	return a.M
}

// valid is what the chapter says of valid sets, word for word.
func valid(a api.Abs) bool {
	switch {
	case a.Lo < lo || a.Lo > a.Hi || a.Hi > hi || a.Mask < 0 || a.Mask > 255:
		return false
	case a.Lo == a.Hi && a.M == 1 && a.R == 0:
		return true
	}
	return 1 <= a.M && a.M <= a.Hi-a.Lo && (a.Hi-a.Lo)%a.M == 0 && 0 <= a.R && a.R < a.M && (a.Lo-a.R)%a.M == 0
}

// valuesOf returns the values of a set that has few of them.
func valuesOf(a api.Abs) []int {
	l := []int{a.Lo}
	for l[len(l)-1] < a.Hi {
		l = append(l, l[len(l)-1]+a.M)
	}
	return l
}

// gcd is that of numbers without limits.
func gcd(l ...*big.Int) *big.Int {
	g := new(big.Int)
	for _, n := range l {
		g.GCD(nil, nil, g, new(big.Int).Abs(n))
	}
	return g
}

func whole(n int) *big.Int { return big.NewInt(int64(n)) }

func times(a, b int) *big.Int { return new(big.Int).Mul(whole(a), whole(b)) }

// hull returns the least set with some values: their distances from the first one say what its step is.
func hull(l []int) api.Abs {
	first, last, m := l[0], l[0], new(big.Int)
	for _, v := range l {
		first, last, m = min(first, v), max(last, v), gcd(m, whole(v-l[0]))
	}
	return set(first, last, int(m.Int64()))
}

// corners returns values of a set that are in no lesser one.
func corners(a api.Abs) []int { return []int{a.Lo, a.Lo + stepOf(a), a.Hi} }

// between returns all sets of values from base, base + scale, .. up to base + n scale, with the mask 0.
func between(base, scale, n int) []api.Abs {
	var l []api.Abs
	for i := range n + 1 {
		l = append(l, one(base+i*scale))
		for j := i + 1; j <= n; j++ {
			for d := 1; d <= j-i; d++ {
				if (j-i)%d == 0 {
					l = append(l, set(base+i*scale, base+j*scale, d*scale))
				}
			}
		}
	}
	return l
}

// few returns sets with few values, which stand everywhere, and are near or far from each other.
func few() []api.Abs {
	var l []api.Abs
	for _, b := range [][2]int{{-3, 1}, {lo, 1}, {hi - 5, 1}, {-15, 6}, {lo, 1 << 29}, {lo, 858993459}, {-1 << 30, 429496729}} {
		l = append(l, between(b[0], b[1], 5)...)
	}
	return append(l, set(lo, hi, 1<<32-1), set(lo, 0, 1<<31), set(-1, hi, 1<<31), set(lo, hi-1, 1<<31-1), set(-2, hi-1, 1<<31))
}

// wide returns sets whose ends are edges, with several steps.
func wide() []api.Abs {
	var l []api.Abs
	for i, a := range edges {
		l = append(l, one(a))
		for _, b := range edges[i+1:] {
			d := b - a
			l = append(l, set(a, b, 1), set(a, b, d))
			for _, m := range []int{2, 3, 5, 7, 255, 257, 65537, d & -d, d / 2, d / 3} {
				if 1 < m && m < d && d%m == 0 {
					l = append(l, set(a, b, m))
				}
			}
		}
	}
	return l
}

// A maker makes the same sets whenever the tests run.
type maker struct{ r *rand.Rand }

func newMaker(seed int64) maker { return maker{rand.New(rand.NewSource(seed))} }

func (m maker) value() int {
	switch m.r.Intn(4) {
	case 0:
		return edges[m.r.Intn(len(edges))]
	case 1:
		return m.r.Intn(41) - 20
	}
	return int(int32(m.r.Uint32())) >> m.r.Intn(32)
}

// mask is as often one of two as any.
func (m maker) mask() int { return m.r.Intn([]int{1, 2, 4, 256}[m.r.Intn(4)]) }

// set is as often narrow as wide, and has steps of any size.
func (m maker) set() api.Abs {
	first, step := m.value(), 1+int(m.r.Uint32()>>m.r.Intn(32))
	if m.r.Intn(3) == 0 {
		step = 1 << m.r.Intn(32)
	}
	n := (hi - first) / step
	switch m.r.Intn(4) {
	case 0:
		n = min(n, m.r.Intn(4))
	case 1:
		n = m.r.Intn(n + 1)
	case 2:
		n = m.r.Intn(n>>m.r.Intn(32) + 1)
	}
	return masked(set(first, first+n*step, step), m.mask())
}

// part returns a set within a.
func (m maker) part(a api.Abs) api.Abs {
	i, j := m.place(a), m.place(a)
	n, d := max(i, j)-min(i, j), 1+m.r.Intn(4)
	first := a.Lo + min(i, j)*a.M
	return masked(set(first, first+n/d*d*a.M, d*a.M), a.Mask&m.mask())
}

// place returns the number of a value of a.
func (m maker) place(a api.Abs) int {
	n := (a.Hi - a.Lo) / a.M
	return []int{0, n, min(n, 1), m.r.Intn(n + 1), m.r.Intn(min(n, 9) + 1)}[m.r.Intn(5)]
}

// word returns a word in a.
func (m maker) word(a api.Abs) api.Word {
	return word(a.Lo+m.place(a)*a.M, a.Mask&m.mask())
}

// isTrue compares two values as the machine does.
func isTrue(op, v, w int) bool {
	return num.Holds(api.Cond{Op: op, A: []api.Expr{{Op: api.ENum, V: v}, {Op: api.ENum, V: w}}}, nil, nil)
}
