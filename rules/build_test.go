package rules_test

import (
	"math"
	"math/rand"
	"slices"

	"parole/api"
	"parole/num"
)

const lo, hi, maxNumber = api.MinInt, api.MaxInt, 1 << 30

// edges are the values at which rules are most likely to go wrong.
var edges = []int{lo, lo + 1, -1 << 16, -7, -1, 0, 1, 7, 1 << 16, hi - 1, hi}

var operators = []int{api.EAdd, api.ESub, api.EMul, api.EDiv, api.EMod, api.EMin, api.EMax}

var noOperators = []int{math.MinInt, lo, -1, 0, api.ENum, api.EVar, api.ELen, api.EMax + 1, 12, 1<<32 + api.EAdd, 1<<32 + api.EMax, math.MaxInt}

func number(v int) api.Expr { return api.Expr{Op: api.ENum, V: v} }

func variable(n int) api.Expr { return api.Expr{Op: api.EVar, N: n} }

func length(n int) api.Expr { return api.Expr{Op: api.ELen, N: n} }

func expr(op int, a, b api.Expr) api.Expr { return api.Expr{Op: op, A: []api.Expr{a, b}} }

func masked(a api.Abs, mask int) api.Abs {
	a.Mask = mask
	return a
}

func one(v int) api.Abs { return api.Abs{Lo: v, Hi: v, M: 1} }

func between(first, last int) api.Abs { return byStep(first, last, 1) }

// byStep returns the set from first to last by m; last is one of its values.
func byStep(first, last, m int) api.Abs {
	if first == last {
		return one(first)
	}
	return api.Abs{Lo: first, Hi: last, M: m, R: ((first % m) + m) % m}
}

// rule returns a rule of firm 0 in its first version.
func rule(id, op, aLo, aHi, bLo, bHi, first, last int) api.Rule {
	return api.Rule{Id: id, Ver: 1, Op: op, ALo: aLo, AHi: aHi, BLo: bLo, BHi: bHi, Lo: first, Hi: last}
}

// everywhere returns a rule that applies to all sets.
func everywhere(id, op, first, last int) api.Rule { return rule(id, op, lo, hi, lo, hi, first, last) }

// fields returns the fields of a rule, in the order of M2.
func fields(r *api.Rule) []*int {
	return []*int{&r.Id, &r.Ver, &r.Firm, &r.Op, &r.ALo, &r.AHi, &r.BLo, &r.BHi, &r.Lo, &r.Hi}
}

// with returns a rule with another number in a field.
func with(r api.Rule, field, n int) api.Rule {
	*fields(&r)[field] = n
	return r
}

// results returns the least and the greatest result of a rule's operator for its pairs.
func results(r api.Rule) (least, greatest int) {
	least, greatest = hi, lo
	for a := r.ALo; a <= r.AHi; a++ {
		for b := r.BLo; b <= r.BHi; b++ {
			v := num.Op(r.Op, a, b)
			least, greatest = min(least, v), max(greatest, v)
		}
	}
	return least, greatest
}

// A maker makes the same rules, sets and expressions whenever the tests run.
type maker struct{ r *rand.Rand }

func newMaker(seed int64) maker { return maker{rand.New(rand.NewSource(seed))} }

func pick[T any](m maker, l ...T) T { return l[m.r.Intn(len(l))] }

func (m maker) value() int {
	switch m.r.Intn(4) {
	case 0:
		return pick(m, edges...)
	case 1:
		return int(int32(m.r.Uint32())) >> m.r.Intn(32)
	}
	return m.r.Intn(41) - 20
}

func (m maker) mask() int { return m.r.Intn(pick(m, 1, 2, 4, 256)) }

// count returns as often few as many.
func (m maker) count(n int) int {
	return pick(m, 0, min(n, 1), m.r.Intn(min(n, 9)+1), m.r.Intn(n+1), m.r.Intn(n>>m.r.Intn(32)+1), n)
}

func (m maker) set() api.Abs {
	first := m.value()
	step := pick(m, 1, 1, 2, 3, 1<<m.r.Intn(32), 1+int(m.r.Uint32()>>m.r.Intn(32)))
	return masked(byStep(first, first+m.count((hi-first)/step)*step, step), m.mask())
}

// wordIn returns a word in a set.
func (m maker) wordIn(a api.Abs) api.Word {
	return api.Word{V: a.Lo + m.count((a.Hi-a.Lo)/a.M)*a.M, Mask: a.Mask & m.mask()}
}

// numbered returns a rule with any Id, Ver and Firm that are right.
func (m maker) numbered(r api.Rule) api.Rule {
	r.Id, r.Ver, r.Firm = 1+m.r.Intn(pick(m, 4, maxNumber)), 1+m.r.Intn(pick(m, 2, maxNumber)), m.r.Intn(api.MaxFirms)
	return r
}

func (m maker) interval() (int, int) {
	v, w := m.value(), m.value()
	return min(v, w), max(v, w)
}

// few returns an interval of at most n values.
func (m maker) few(n int) (int, int) {
	first := m.value()
	return first, min(hi, first+m.r.Intn(n))
}

// anyRule returns a right rule, with any number of pairs.
func (m maker) anyRule() api.Rule {
	r := m.numbered(api.Rule{Op: pick(m, operators...)})
	r.ALo, r.AHi = m.interval()
	r.BLo, r.BHi = m.interval()
	r.Lo, r.Hi = m.interval()
	return r
}

// smallRule returns a rule with few pairs, which says exactly what its results are.
func (m maker) smallRule() api.Rule {
	r := m.numbered(api.Rule{Op: pick(m, operators...)})
	r.ALo, r.AHi = m.few(pick(m, 1, 4, 12))
	r.BLo, r.BHi = m.few(pick(m, 1, 4, 12))
	r.Lo, r.Hi = results(r)
	return r
}

// ruleFor returns a rule that applies to two sets, or nearly, and keeps some of the values of their result.
func (m maker) ruleFor(op int, a, b, res api.Abs) api.Rule {
	r := m.numbered(api.Rule{Op: op})
	near := func(v, d int) int { return min(max(v+pick(m, 0, 0, 0, d, d*m.r.Intn(9), -d), lo), hi) }
	r.ALo, r.AHi = near(a.Lo, -1), near(a.Hi, 1)
	r.BLo, r.BHi = near(b.Lo, -1), near(b.Hi, 1)
	v, w := m.place(res), m.place(res)
	r.Lo, r.Hi = min(v, w), max(v, w)
	r.AHi, r.BHi = max(r.ALo, r.AHi), max(r.BLo, r.BHi)
	return r
}

// place returns a value that is in a set, or near to one.
func (m maker) place(a api.Abs) int {
	v := pick(m, a.Lo, a.Hi, m.wordIn(a).V) + m.r.Intn(3) - 1
	return min(max(v, lo), hi)
}

// rulesFor returns rules for two sets and their result, among others.
func (m maker) rulesFor(op int, a, b, res api.Abs) []api.Rule {
	var l []api.Rule
	for range m.r.Intn(8) {
		l = append(l, pick(m, m.ruleFor(op, a, b, res), m.ruleFor(op, a, b, res), m.ruleFor(pick(m, operators...), a, b, res), m.anyRule()))
	}
	return l
}

// anyRules returns rules for small numbers, as expressions have them.
func (m maker) anyRules() []api.Rule {
	var l []api.Rule
	for range m.r.Intn(12) {
		a, b := m.set(), m.set()
		l = append(l, pick(m, m.anyRule(), everywhere(1+m.r.Intn(9), pick(m, operators...), -m.r.Intn(50), m.r.Intn(50)), m.ruleFor(pick(m, operators...), a, b, m.set())))
	}
	return l
}

// soundRules returns rules with few pairs that say what their results are, or less.
func (m maker) soundRules() []api.Rule {
	var l []api.Rule
	for range m.r.Intn(6) {
		r := m.smallRule()
		r.Lo, r.Hi = max(lo, r.Lo-m.r.Intn(2)), min(hi, r.Hi+m.r.Intn(2))
		l = append(l, r)
	}
	return l
}

// part returns a set of values of an interval.
func (m maker) part(first, last int) api.Abs {
	v, w := first+m.r.Intn(last-first+1), first+m.r.Intn(last-first+1)
	v, w = min(v, w), max(v, w)
	step := 1 + m.r.Intn(3)
	return masked(byStep(v, w-(w-v)%step, step), m.mask())
}

// def returns a definition with parameters, other variables, and arrays.
func (m maker) def() api.Def {
	d := api.Def{Id: 1, Site: 1, Name: "f", Vars: 1 + m.r.Intn(5), Budget: 1}
	for range m.r.Intn(d.Vars + 1) {
		first, last := m.interval()
		d.Params = append(d.Params, api.Range{Lo: first, Hi: last, Mask: m.mask()})
	}
	for range m.r.Intn(3) {
		d.Arrays = append(d.Arrays, api.Array{Len: 1 + m.r.Intn(api.MaxLen), Of: m.r.Intn(len(d.Params) + 1)})
	}
	return d
}

// fact returns a valid fact for a definition, in which nothing is known of gaps.
func (m maker) fact(d api.Def) api.Fact {
	f := api.Fact{Arr: make([]int, len(d.Arrays)), Parts: 1}
	for range d.Vars {
		f.V = append(f.V, m.set())
		f.Gap = append(f.Gap, slices.Repeat([]int{api.NoGap}, len(d.Params)))
	}
	return f
}

func (m maker) expr(d api.Def, depth int) api.Expr {
	n := m.r.Intn(8)
	switch {
	case depth > 1 && n < 5:
		return expr(pick(m, operators...), m.expr(d, depth-1), m.expr(d, depth-1))
	case n == 6 && len(d.Arrays) > 0:
		return length(m.r.Intn(len(d.Arrays)))
	case n == 7:
		return number(m.value())
	}
	return variable(m.r.Intn(d.Vars))
}
