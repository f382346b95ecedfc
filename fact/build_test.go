package fact_test

import (
	"math/rand"
	"slices"

	"parole/api"
	"parole/num"
)

const lo, hi, far, no = api.MinInt, api.MaxInt, 1 << 34, api.NoGap

// edges are the values at which facts are most likely to go wrong.
var edges = []int{lo, lo + 1, -1 << 30, -7, -1, 0, 1, 7, 1 << 30, hi - 1, hi}

var operators = []int{api.EAdd, api.ESub, api.EMul, api.EDiv, api.EMod, api.EMin, api.EMax}

var comparisons = []int{api.CLt, api.CLe, api.CEq}

var levels = []int{-1 << 63, -1, 0, 1, 2, 3, 1<<63 - 1}

var dead = api.Fact{Dead: true}

var always = api.Cond{Op: api.CTrue}

func number(v int) api.Expr { return api.Expr{Op: api.ENum, V: v} }

func variable(n int) api.Expr { return api.Expr{Op: api.EVar, N: n} }

func length(n int) api.Expr { return api.Expr{Op: api.ELen, N: n} }

func expr(op int, a, b api.Expr) api.Expr { return api.Expr{Op: op, A: []api.Expr{a, b}} }

func plus(w, c int) api.Expr { return expr(api.EAdd, variable(w), number(c)) }

func plusTurned(w, c int) api.Expr { return expr(api.EAdd, number(c), variable(w)) }

func minus(w, c int) api.Expr { return expr(api.ESub, variable(w), number(c)) }

func compare(op int, a, b api.Expr) api.Cond { return api.Cond{Op: op, A: []api.Expr{a, b}} }

func less(a, b api.Expr) api.Cond { return compare(api.CLt, a, b) }

func atMost(a, b api.Expr) api.Cond { return compare(api.CLe, a, b) }

func equal(a, b api.Expr) api.Cond { return compare(api.CEq, a, b) }

func cond(op int, c ...api.Cond) api.Cond { return api.Cond{Op: op, C: c} }

func not(c api.Cond) api.Cond { return cond(api.CNot, c) }

func and(c, d api.Cond) api.Cond { return cond(api.CAnd, c, d) }

func or(c, d api.Cond) api.Cond { return cond(api.COr, c, d) }

func one(v int) api.Abs { return api.Abs{Lo: v, Hi: v, M: 1} }

func between(first, last int) api.Abs { return byStep(first, last, 1) }

// byStep returns the set from first to last by m; last is one of its values.
func byStep(first, last, m int) api.Abs {
	if first == last {
		return one(first)
	}
	return api.Abs{Lo: first, Hi: last, M: m, R: ((first % m) + m) % m}
}

func masked(a api.Abs, mask int) api.Abs {
	a.Mask = mask
	return a
}

func owned(a api.Abs) api.Ref { return api.Ref{S: api.ROwned, A: a} }

func either(a api.Abs) api.Ref { return api.Ref{S: api.RNull | api.ROwned, A: a} }

var null = api.Ref{S: api.RNull, A: one(0)}

func copyOf(f api.Fact) api.Fact {
	g := f
	g.V, g.Refs, g.Arr, g.Gap = slices.Clone(f.V), slices.Clone(f.Refs), slices.Clone(f.Arr), nil
	for _, l := range f.Gap {
		g.Gap = append(g.Gap, slices.Clone(l))
	}
	return g
}

// changed returns what a fact is after a change.
func changed(f api.Fact, change func(*api.Fact)) api.Fact {
	g := copyOf(f)
	change(&g)
	return g
}

func isSameGap(g, h [][]int) bool { return slices.EqualFunc(g, h, slices.Equal[[]int]) }

func isSame(f, g api.Fact) bool {
	return f.Dead == g.Dead && slices.Equal(f.V, g.V) && isSameGap(f.Gap, g.Gap) && slices.Equal(f.Refs, g.Refs) &&
		slices.Equal(f.Arr, g.Arr) && f.Must == g.Must && f.May == g.May && f.Parts == g.Parts
}

// lensOf is what layer 8 says of the lengths of arrays.
func lensOf(d api.Def, w []api.Word) []int {
	var l []int
	for _, a := range d.Arrays {
		n := a.Len
		if a.Of > 0 {
			n = max(0, min(w[a.Of-1].V, a.Len))
		}
		l = append(l, n)
	}
	return l
}

func valuesOf(w []api.Word) []int {
	var l []int
	for _, x := range w {
		l = append(l, x.V)
	}
	return l
}

// wordOf is what layer 8 says of the word of an expression.
func wordOf(d api.Def, w []api.Word, e api.Expr) api.Word {
	x := api.Word{V: num.Eval(e, valuesOf(w), lensOf(d, w))}
	for _, v := range num.Reads(e) {
		x.Mask |= w[v].Mask
	}
	return x
}

func isTrue(d api.Def, w []api.Word, c api.Cond) bool {
	return num.Holds(c, valuesOf(w), lensOf(d, w))
}

// A maker makes the same definitions, facts and words whenever the tests run.
type maker struct{ r *rand.Rand }

func newMaker(seed int64) maker { return maker{rand.New(rand.NewSource(seed))} }

func pick[T any](m maker, l ...T) T { return l[m.r.Intn(len(l))] }

func (m maker) value() int {
	switch m.r.Intn(5) {
	case 0:
		return pick(m, edges...)
	case 1:
		return int(int32(m.r.Uint32())) >> m.r.Intn(32)
	case 2:
		return m.r.Intn(api.MaxLen + 4)
	}
	return m.r.Intn(13) - 4
}

// mask is as often nothing as any.
func (m maker) mask() int { return m.r.Intn(pick(m, 1, 2, 4, 256)) }

// def makes definitions whose arrays often have exactly as many elements as a parameter says.
func (m maker) def() api.Def {
	params := m.r.Intn(4)
	vars := params + m.r.Intn(4)
	if m.r.Intn(20) == 0 {
		vars = api.MaxVars
		params = m.r.Intn(vars + 1)
	}
	d := api.Def{Id: 1, Site: 1, Name: "f", Part: m.r.Intn(api.MaxParts), Vars: vars, Refs: m.r.Intn(api.MaxRefs + 1), Budget: 1}
	for range m.r.Intn(api.MaxArrays + 1) {
		d.Arrays = append(d.Arrays, api.Array{Len: 1 + m.r.Intn(pick(m, 9, api.MaxLen)), Of: m.r.Intn(params + 1)})
	}
	for range params {
		d.Params = append(d.Params, m.someRange())
	}
	for range m.r.Intn(d.Refs + 1) {
		d.Given = append(d.Given, m.someRange())
	}
	return d
}

func (m maker) someRange() api.Range {
	v, w := m.value(), m.value()
	return api.Range{Lo: min(v, w), Hi: max(v, w), Mask: m.mask()}
}

func (m maker) wordIn(r api.Range) api.Word {
	v := r.Lo + m.r.Intn(r.Hi-r.Lo+1)
	return api.Word{V: pick(m, v, r.Lo, r.Hi), Mask: r.Mask & m.mask()}
}

// beginning returns words of the parameters in their ranges, and zeros.
func (m maker) beginning(d api.Def) []api.Word {
	w := make([]api.Word, d.Vars)
	for v, r := range d.Params {
		w[v] = m.wordIn(r)
	}
	return w
}

func (m maker) words(d api.Def) []api.Word {
	w := make([]api.Word, d.Vars)
	for v := range w {
		w[v] = api.Word{V: m.value(), Mask: m.mask()}
	}
	return w
}

// count returns as often few as many.
func (m maker) count(n int) int {
	return pick(m, 0, min(n, 1), m.r.Intn(min(n, 9)+1), m.r.Intn(n+1), m.r.Intn(n>>m.r.Intn(32)+1), n)
}

// around returns a set that has a word.
func (m maker) around(w api.Word) api.Abs {
	step := pick(m, 1, 1, 2, 3, 1<<m.r.Intn(32), 1+int(m.r.Uint32()>>m.r.Intn(32)))
	a := byStep(w.V-m.count((w.V-lo)/step)*step, w.V+m.count((hi-w.V)/step)*step, step)
	return masked(a, w.Mask|m.mask())
}

func (m maker) set() api.Abs { return m.around(api.Word{V: m.value(), Mask: m.mask()}) }

// bound returns a bound of a gap that is at least d.
func (m maker) bound(d int) int {
	n := pick(m, d, d, d+m.r.Intn(5), max(d, far), no)
	if n > far {
		return no
	}
	return n
}

func (m maker) ref() api.Ref {
	return pick(m, null, owned(m.set()), either(m.set()))
}

// fact returns a fact that words are within, as often closely as not.
func (m maker) fact(d api.Def, w []api.Word) api.Fact {
	f := api.Fact{May: m.mask() | m.mask(), Parts: m.r.Intn(1<<api.MaxParts) | m.r.Intn(2)<<15}
	f.Must = f.May & m.r.Intn(256)
	for v, x := range w {
		f.V = append(f.V, m.around(x))
		l := []int{}
		for p := range d.Params {
			l = append(l, m.bound(w[v].V-w[p].V))
		}
		f.Gap = append(f.Gap, l)
	}
	for p := range d.Params {
		for _, a := range d.Arrays { // parameters that are exactly lengths, if their words can be
			if x := w[p].V; a.Of == p+1 && x >= 0 && x <= a.Len && m.r.Intn(2) == 0 {
				f.V[p] = masked(between(m.r.Intn(x+1), x+m.r.Intn(a.Len-x+1)), f.V[p].Mask)
			}
		}
	}
	for range d.Refs {
		f.Refs = append(f.Refs, m.ref())
	}
	for range d.Arrays {
		f.Arr = append(f.Arr, m.mask())
	}
	return f
}

// any returns a valid fact, Dead now and then.
func (m maker) any(d api.Def) api.Fact {
	if m.r.Intn(12) == 0 {
		return dead
	}
	return m.fact(d, m.words(d))
}

func (m maker) leaf(d api.Def) api.Expr {
	op := m.r.Intn(3)
	switch {
	case op == 0 && d.Vars > 0:
		return variable(m.r.Intn(d.Vars))
	case op == 1 && len(d.Arrays) > 0:
		return length(m.r.Intn(len(d.Arrays)))
	}
	return number(m.value())
}

// shift makes all its forms, with constants of all sizes.
func (m maker) shift(d api.Def) api.Expr {
	w, c := m.r.Intn(d.Vars), pick(m, m.r.Intn(5)-2, m.value())
	return pick(m, variable(w), variable(w), plus(w, c), plusTurned(w, c), minus(w, c))
}

// expr makes expressions, often ones that are shifts, or nearly.
func (m maker) expr(d api.Def, depth int) api.Expr {
	switch n := m.r.Intn(6); {
	case n < 2 && d.Vars > 0:
		return m.shift(d)
	case n == 2 || depth <= 1:
		return m.leaf(d)
	}
	return expr(pick(m, append(operators, api.EAdd, api.ESub)...), m.expr(d, depth-1), m.expr(d, depth-1))
}

// side makes one side of a comparison, often a variable.
func (m maker) side(d api.Def) api.Expr {
	if d.Vars > 0 && m.r.Intn(2) == 0 {
		return variable(m.r.Intn(d.Vars))
	}
	return m.expr(d, 2)
}

func (m maker) cond(d api.Def, depth int) api.Cond {
	n := m.r.Intn(10)
	switch {
	case n == 0:
		return always
	case n < 5 || depth <= 1:
		return compare(pick(m, comparisons...), m.side(d), m.side(d))
	case n == 5:
		return not(m.cond(d, depth-1))
	}
	return cond(pick(m, api.CAnd, api.COr), m.cond(d, depth-1), m.cond(d, depth-1))
}
