package machine_test

import (
	"slices"

	"parole/api"
	"parole/shape"
)

// An ability is what a call of a definition can do: take these locks (as bits), end with an exception, and be seen so often.
type ability struct {
	locks  int
	throws bool
	cost   int
}

// A scope is a place in a definition: what is known there, and what may be done so that nothing can fail.
type scope struct {
	maker
	p               api.Program // without the definition
	can             map[int]ability
	d               api.Def
	site            *int
	took            *int  // all locks that are taken anywhere in the definition
	null, own       []int // references
	held, parts     int
	throws, returns bool
	depth           int
}

func (m maker) value() int {
	return pick(m, api.MinInt, -3, -1, 0, 1, 2, 3, 5, 100, api.MaxInt, m.from(-9, 9))
}

func (m maker) mask() int { return pick(m, 0, 0, 1, 255, m.from(0, 255)) }

func (m maker) rangeOf() api.Range {
	a, b := m.value(), m.value()
	return api.Range{Lo: min(a, b), Hi: max(a, b), Mask: pick(m, 255, 255, 255, m.mask())}
}

func (m maker) wordIn(r api.Range) api.Word {
	return w(pick(m, r.Lo, r.Hi, m.from(r.Lo, r.Hi)), m.mask()&r.Mask)
}

// words returns words in these ranges.
func (m maker) words(l []api.Range) []api.Word {
	var out []api.Word
	for _, r := range l {
		out = append(out, m.wordIn(r))
	}
	return out
}

// answers returns any number of any answers.
func (m maker) answers() []api.Answer {
	return some(pick(m, m.from(0, 6), 40), func() api.Answer {
		return api.Answer{W: w(m.value(), m.mask()), Throw: pick(m, 0, 0, 0, m.from(1, 31))}
	})
}

func (m maker) decl() api.Decl {
	return api.Decl{
		Globals: some(m.from(1, 3), m.rangeOf), Classes: some(m.from(1, 3), m.rangeOf),
		Queues: some(m.from(1, 3), func() api.Queue { return api.Queue{Cap: m.from(1, 3), R: m.rangeOf()} }),
		Sinks:  some(m.from(1, 3), m.mask), Locks: m.from(1, 4), Parts: m.from(2, 5), Firms: 1,
	}
}

// calm returns a program in which nothing can fail, whatever the answers are. Some definitions are closed.
func (m maker) calm() api.Program {
	p, can, site := api.Program{D: m.decl()}, map[int]ability{}, 0
	for _, id := range m.r.Perm(m.from(1, 5)) {
		d, a := m.def(p, id+1, can, &site)
		p.Heads = append(p.Heads, shape.Head(d))
		if m.oneIn(6) {
			a = ability{throws: true}
		} else {
			p.Defs = append(p.Defs, d)
		}
		can[d.Id] = a
	}
	slices.SortFunc(p.Heads, func(a, b api.Head) int { return a.Id - b.Id })
	slices.SortFunc(p.Defs, func(a, b api.Def) int { return a.Id - b.Id })
	return p
}

func (m maker) def(p api.Program, id int, can map[int]ability, site *int) (api.Def, ability) {
	d := api.Def{Id: id, Name: "a", Part: m.from(0, p.D.Parts-1), Params: some(m.from(0, 3), m.rangeOf), Given: some(m.from(0, 2), m.rangeOf)}
	d.Vars, d.Refs = len(d.Params)+m.from(1, 3), len(d.Given)+m.from(0, 2)
	d.Arrays = some(m.from(0, 3), func() api.Array { return api.Array{Len: m.from(1, 5), Of: m.from(0, len(d.Params))} })
	s := scope{maker: m, p: p, can: can, d: d, site: site, took: new(int), parts: 1 | 1<<d.Part, throws: m.oneIn(2), returns: true, depth: 4}
	for n := range d.Refs {
		s.null = append(s.null, n)
	}
	d.Body = s.whole()
	d.Site = s.newSite()
	cost := s.worst(d.Body)
	if cost > 2000 {
		return m.def(p, id, can, site)
	}
	d.Budget = max(cost, 1)
	return d, ability{*s.took, s.throws, cost}
}

// whole returns the statements of a definition, which gives back the given records first.
func (s scope) whole() []api.Stmt {
	l := s.holding(s.null[:len(s.d.Given)]...).list(s.from(0, 3))
	for n := range s.d.Given {
		l = append(l, by(s.newSite(), api.SFree, n))
	}
	return append(l, s.list(s.from(0, 5))...)
}

// holding returns the scope in which further references have records, which nothing may leave.
func (s scope) holding(refs ...int) scope {
	s.null = slices.DeleteFunc(slices.Clone(s.null), func(n int) bool { return slices.Contains(refs, n) })
	s.own = slices.Concat(s.own, refs)
	if len(refs) > 0 {
		s.throws, s.returns = false, false
	}
	s.depth--
	return s
}

func (s scope) newSite() int {
	*s.site += s.from(1, 3)
	return *s.site
}

// worst returns how often statements are seen at most.
func (s scope) worst(l []api.Stmt) int {
	n := 0
	for _, x := range l {
		body, other := s.worst(x.Body), s.worst(x.Else)
		switch x.Op {
		case api.SWhile:
			n += x.V * (1 + body)
		case api.SIf:
			n += 1 + max(body, other)
		case api.SCall:
			n += 1 + s.can[x.M].cost
		default:
			n += 1 + body + other
		}
	}
	return n
}

func (s scope) target() int { return s.from(len(s.d.Params), s.d.Vars-1) }

func (s scope) expr(depth int, leaf func() api.Expr) api.Expr {
	if depth <= 1 || s.oneIn(3) {
		return leaf()
	}
	return expr(s.from(api.EAdd, api.EMax), s.expr(depth-1, leaf), s.expr(depth-1, leaf))
}

func (s scope) any() api.Expr { return s.expr(3, s.leaf) }

func (s scope) leaf() api.Expr {
	return pick(s.maker, variable(s.from(0, s.d.Vars-1)), variable(s.from(0, s.d.Vars-1)), s.clean())
}

// clean returns an expression without classes.
func (s scope) clean() api.Expr {
	if len(s.d.Arrays) == 0 || s.oneIn(2) {
		return num(s.value())
	}
	return length(s.from(0, len(s.d.Arrays)-1))
}

// fit returns an expression whose word is in a range.
func (s scope) fit(r api.Range) api.Expr {
	x := s.any()
	if r.Mask != api.AllMask {
		x = s.expr(3, s.clean)
	}
	return clamp(x, num(r.Lo), num(r.Hi))
}

func clamp(x, lo, hi api.Expr) api.Expr { return expr(api.EMin, expr(api.EMax, x, lo), hi) }

func (s scope) cond(depth int) api.Cond {
	if depth <= 1 || s.oneIn(2) {
		return pick(s.maker, always(), compare(s.from(api.CLt, api.CEq), s.any(), s.any()))
	}
	return pick(s.maker, join(api.CNot, s.cond(depth-1)), join(s.from(api.CAnd, api.COr), s.cond(depth-1), s.cond(depth-1)))
}

// list returns n groups of statements, one after the other.
func (s scope) list(n int) []api.Stmt {
	var l []api.Stmt
	for range n {
		l = append(l, s.group()...)
		for _, x := range l {
			if x.Op == api.SUse {
				s.parts |= 1 << x.M
			}
		}
	}
	return l
}

func (s scope) group() []api.Stmt {
	makers := []func() []api.Stmt{s.simple, s.simple, s.element, s.record, s.operation, s.operation, s.leaving, s.call, s.call, s.call}
	if s.depth > 0 {
		makers = append(makers, s.nested, s.nested, s.lock, s.create, s.move)
	}
	if l := pick(s.maker, makers...)(); len(l) > 0 {
		return l
	}
	return s.simple()
}

func (s scope) simple() []api.Stmt {
	x := s.any()
	return list(pick(s.maker,
		set(s.newSite(), s.target(), x), set(s.newSite(), s.target(), x), set(s.newSite(), s.target(), x), set(s.newSite(), s.target(), x),
		assert(s.newSite(), compare(api.CLe, x, x)),
		by(s.newSite(), api.SUse, s.from(0, s.p.D.Parts-1)),
	))
}

func (s scope) operation() []api.Stmt {
	d := s.p.D
	g, c, q, k := s.r.Intn(len(d.Globals)), s.r.Intn(len(d.Classes)), s.r.Intn(len(d.Queues)), s.r.Intn(len(d.Sinks))
	return list(pick(s.maker,
		st(s.newSite(), api.SRead, s.target(), g, none()),
		st(s.newSite(), api.SSource, s.target(), c, none()),
		st(s.newSite(), api.SRecv, s.target(), q, none()),
		st(s.newSite(), api.SWrite, 0, g, s.fit(d.Globals[g])),
		st(s.newSite(), api.SSend, 0, q, s.fit(d.Queues[q].R)),
		st(s.newSite(), api.SSink, 0, k, s.fit(api.Range{Lo: api.MinInt, Hi: api.MaxInt, Mask: d.Sinks[k]})),
	))
}

// element loads or stores an element; the length of an array can be 0.
func (s scope) element() []api.Stmt {
	if len(s.d.Arrays) == 0 {
		return nil
	}
	m := s.r.Intn(len(s.d.Arrays))
	x := clamp(s.any(), num(0), expr(api.ESub, length(m), num(1)))
	inner := pick(s.maker, st(s.newSite(), api.SLoad, s.target(), m, x), store(s.newSite(), m, x, s.any()))
	return list(choose(s.newSite(), less(num(0), length(m)), list(inner), s.list(s.from(0, 1)*s.depth/4)))
}

func (s scope) record() []api.Stmt {
	if len(s.own) == 0 {
		return nil
	}
	n := pick(s.maker, s.own...)
	return list(pick(s.maker,
		st(s.newSite(), api.SPut, n, 0, s.any()),
		st(s.newSite(), api.SGet, s.target(), n, none()),
		st(s.newSite(), api.SMove, n, n, none()),
	))
}

func (s scope) leaving() []api.Stmt {
	switch {
	case s.throws && s.oneIn(2):
		return list(throw(s.newSite(), s.from(1, 31)))
	case s.returns && s.oneIn(2):
		return list(back(s.newSite(), s.any()))
	}
	return nil
}

func (s scope) nested() []api.Stmt {
	s.depth--
	inner := s
	inner.throws = true
	return list(pick(s.maker,
		func() api.Stmt { return choose(s.newSite(), s.cond(3), s.list(s.from(0, 3)), s.list(s.from(0, 2))) },
		func() api.Stmt { return loop(s.newSite(), s.from(1, 4), s.cond(3), s.list(s.from(0, 3))...) },
		func() api.Stmt { return try(s.newSite(), s.target(), inner.list(s.from(1, 4)), s.list(s.from(0, 2))) },
	)())
}

func (s scope) lock() []api.Stmt {
	m := s.r.Intn(s.p.D.Locks)
	if s.held&(1<<m) != 0 {
		return nil
	}
	*s.took |= 1 << m
	inner := s.holding()
	inner.throws, inner.returns = false, false
	inner.held |= 1 << m
	return slices.Concat(list(by(s.newSite(), api.SLock, m)), inner.list(s.from(0, 3)), list(by(s.newSite(), api.SUnlock, m)))
}

func (s scope) create() []api.Stmt {
	if len(s.null) == 0 {
		return nil
	}
	n := pick(s.maker, s.null...)
	return slices.Concat(list(by(s.newSite(), api.SNew, n)), s.holding(n).list(s.from(0, 3)), list(by(s.newSite(), api.SFree, n)))
}

// move moves a record to and fro.
func (s scope) move() []api.Stmt {
	if len(s.null) == 0 || len(s.own) == 0 {
		return nil
	}
	n, m := pick(s.maker, s.null...), pick(s.maker, s.own...)
	inner := s.holding(n)
	inner.own = slices.DeleteFunc(inner.own, func(k int) bool { return k == m })
	inner.null = append(inner.null, m)
	return slices.Concat(list(st(s.newSite(), api.SMove, n, m, none())), inner.list(s.from(0, 3)), list(st(s.newSite(), api.SMove, m, n, none())))
}

// call makes the records that it gives away. What it throws is caught where nothing may leave the place.
func (s scope) call() []api.Stmt {
	if len(s.p.Heads) == 0 {
		return nil
	}
	h := pick(s.maker, s.p.Heads...)
	can := s.can[h.Id]
	if len(h.Given) > len(s.null) || can.locks&s.held != 0 {
		return nil
	}
	*s.took |= can.locks
	var l []api.Stmt
	x := call(0, pick(s.maker, -1, s.target(), s.target()), h.Id, nil)
	if s.parts&(1<<h.Part) == 0 {
		l = append(l, by(s.newSite(), api.SUse, h.Part))
	}
	for _, r := range h.Params {
		x.Args = append(x.Args, s.fit(r))
	}
	for i, k := range s.r.Perm(len(s.null))[:len(h.Given)] {
		n := s.null[k]
		x.Ptrs = append(x.Ptrs, n)
		l = append(l, by(s.newSite(), api.SNew, n), st(s.newSite(), api.SPut, n, 0, s.fit(h.Given[i])))
	}
	x.Site = s.newSite()
	l = append(l, x)
	if can.throws && !s.throws {
		return list(try(s.newSite(), s.target(), l, nil))
	}
	return l
}
