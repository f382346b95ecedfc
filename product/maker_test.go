package product_test

import (
	"maps"
	"math/rand"
	"slices"

	"parole/api"
	"parole/shape"
)

// A maker makes the same programs and schedules whenever the tests run. What a wild one makes can fail; if it is tangled, only in circles. With apart, each definition uses globals, queues, locks and classes of its own, and otherwise all use as many as shared says.
type maker struct {
	r                    *rand.Rand
	wild, tangled, apart bool
	shared               int
}

func newMaker(seed int64) maker {
	m := maker{r: rand.New(rand.NewSource(seed))}
	m.shared = pick(m, 2, 2, 3, 4)
	return m
}

func (m maker) from(lo, hi int) int { return lo + m.r.Intn(hi-lo+1) }

// oneIn is true in one of n cases.
func (m maker) oneIn(n int) bool { return m.r.Intn(n) == 0 }

// isWrong is true, for a wild maker, in one of n cases.
func (m maker) isWrong(n int) bool { return m.wild && m.oneIn(n) }

func pick[T any](m maker, l ...T) T { return l[m.r.Intn(len(l))] }

func some[T any](n int, make func() T) []T {
	var l []T
	for range n {
		l = append(l, make())
	}
	return l
}

func (m maker) value() int {
	return pick(m, api.MinInt, -3, -1, 0, 1, 2, 3, api.MaxInt, m.from(-9, 9))
}

func (m maker) mask() int { return pick(m, 255, 255, 255, 0, m.from(0, 255)) }

func (m maker) rangeOf() api.Range {
	a, b := m.value(), m.value()
	return api.Range{Lo: min(a, b), Hi: max(a, b), Mask: m.mask()}
}

// decl has at least 4 of each.
func (m maker) decl() api.Decl {
	return api.Decl{
		Globals: some(4, m.rangeOf), Classes: some(4, m.rangeOf), Sinks: some(4, func() int { return m.from(0, 255) }), Locks: 4, Parts: 4, Firms: 1,
		Queues: some(4, func() api.Queue { return api.Queue{Cap: pick(m, 1, 1, 2, 3), R: m.rangeOf()} }),
	}
}

// inputs are sometimes too few.
func (m maker) inputs(d api.Decl) [][]int {
	var l [][]int
	for _, r := range d.Classes {
		l = append(l, some(pick(m, m.from(0, 3), 20), func() int { return pick(m, r.Lo, r.Hi, m.from(r.Lo, r.Hi)) }))
	}
	return l
}

func (m maker) schedule(n int) []int {
	return some(n, func() int { return pick(m, 0, -1, m.from(-9, 9), m.from(0, 1<<40), m.r.Int(), -m.r.Int()) })
}

// An ability is what a call of a definition needs, and can do: take these locks (as bits), and end with an exception.
type ability struct {
	part   int
	params []api.Range
	locks  int
	throws bool
}

// A scope is a place in a definition.
type scope struct {
	maker
	d       api.Decl
	can     map[int]ability
	site    *int
	vars    int
	params  int
	own     []int // which globals, queues, locks and classes may be used
	held    int   // locks, as bits
	took    *int  // all locks that are taken anywhere in the definition
	throws  bool
	returns bool
	depth   int
}

// program returns a program with up to 4 threads, and definitions that these call. It is calm unless the maker is wild.
func (m maker) program() api.Program {
	p := api.Program{D: m.decl()}
	can := map[int]ability{}
	helpers, count := m.from(0, 2), m.from(1, 4)
	if m.apart {
		helpers = 0
	}
	site := 0
	for _, id := range m.r.Perm(helpers + count) {
		isHelper := len(can) < helpers
		d, a := m.def(p.D, id+1, can, &site, isHelper)
		p.Heads = append(p.Heads, shape.Head(d))
		if isHelper && m.oneIn(8) {
			a = ability{a.part, a.params, 0, true}
		} else {
			p.Defs = append(p.Defs, d)
		}
		can[d.Id] = a
		if !isHelper && m.oneIn(8) && !m.apart && len(p.Threads) < 3 {
			p.Threads = append(p.Threads, d.Id)
		}
		if !isHelper && len(p.Threads) < 4 {
			p.Threads = append(p.Threads, d.Id)
		}
	}
	slices.SortFunc(p.Heads, func(a, b api.Head) int { return a.Id - b.Id })
	slices.SortFunc(p.Defs, func(a, b api.Def) int { return a.Id - b.Id })
	return p
}

func (m maker) def(d api.Decl, id int, can map[int]ability, site *int, isHelper bool) (api.Def, ability) {
	x := api.Def{Id: id, Name: "a", Vars: 3, Budget: api.MaxFuel}
	s := scope{maker: m, d: d, can: can, site: site, vars: 3, took: new(int), returns: true, depth: 3}
	s.own = []int{0, 1, 2, 3}[:m.shared]
	if m.apart {
		s.own = []int{(id - 1) % 4}
	}
	if isHelper {
		x.Part = m.from(0, d.Parts-1)
		x.Params = some(m.from(0, 2), m.rangeOf)
		s.params = len(x.Params)
		s.throws = m.oneIn(2)
	}
	x.Body = s.list(s.from(1, 6))
	if m.isWrong(6) {
		x.Budget = m.from(1, 20)
	}
	x.Site = s.newSite()
	return x, ability{x.Part, x.Params, *s.took, s.throws || m.wild}
}

func (s scope) newSite() int {
	*s.site += s.from(1, 3)
	return *s.site
}

// at gives a statement a site.
func (s scope) at(x api.Stmt) api.Stmt {
	x.Site = s.newSite()
	return x
}

func (s scope) target() int { return s.from(s.params, s.vars-1) }

// any returns an expression with any value and classes.
func (s scope) any() api.Expr {
	if s.oneIn(3) {
		return expr(s.from(api.EAdd, api.EMax), s.leaf(), s.leaf())
	}
	return s.leaf()
}

func (s scope) leaf() api.Expr {
	if s.oneIn(4) {
		return num(s.value())
	}
	return variable(s.from(0, s.vars-1))
}

// fit returns an expression whose word is in a range.
func (s scope) fit(r api.Range) api.Expr {
	x := variable(s.from(0, s.vars-1))
	if s.isWrong(6) {
		return pick(s.maker, x, num(s.value()))
	}
	if r.Mask != api.AllMask {
		x = num(s.value())
	}
	return expr(api.EMin, expr(api.EMax, x, num(r.Lo)), num(r.Hi))
}

func (s scope) list(n int) []api.Stmt {
	var l []api.Stmt
	for range n {
		l = append(l, s.group()...)
	}
	return l
}

func (s scope) group() []api.Stmt {
	makers := []func() []api.Stmt{s.operation, s.operation, s.quiet, s.leaving, s.call}
	if s.depth > 0 {
		makers = append(makers, s.nested, s.lock, s.lock, s.pair)
	}
	if s.isWrong(4) {
		makers = append(makers, s.taint)
	}
	if s.tangled && s.depth > 0 {
		makers = append(makers, s.lock, s.lock, s.lock, s.lock)
	}
	return pick(s.maker, makers...)()
}

func (s scope) operation() []api.Stmt {
	n := pick(s.maker, s.own...)
	sink := s.from(0, len(s.d.Sinks)-1)
	return list(s.at(pick(s.maker,
		input(api.SRead, s.target(), n), output(api.SWrite, n, s.fit(s.d.Globals[n])),
		input(api.SSource, s.target(), n), output(api.SSink, sink, s.fit(api.Range{Lo: api.MinInt, Hi: api.MaxInt, Mask: s.d.Sinks[sink]})),
		output(api.SSend, n, s.fit(s.d.Queues[n].R)), use(s.from(0, s.d.Parts-1)),
	)))
}

// taint brings the classes of an input to a sink, which may not be allowed.
func (s scope) taint() []api.Stmt {
	v := s.target()
	return list(s.at(input(api.SSource, v, pick(s.maker, s.own...))), s.at(output(api.SSink, s.from(0, len(s.d.Sinks)-1), variable(v))))
}

// pair sends and receives, so that threads do not wait too often.
func (s scope) pair() []api.Stmt {
	s.depth--
	n := pick(s.maker, s.own...)
	l := append(list(s.at(output(api.SSend, n, s.fit(s.d.Queues[n].R)))), s.list(s.from(0, 2))...)
	if s.oneIn(6) {
		l = l[1:]
	}
	return append(l, s.at(input(api.SRecv, s.target(), n)))
}

func (s scope) quiet() []api.Stmt {
	x := s.any()
	c := compare(api.CLe, x, x)
	if s.isWrong(3) {
		c.A[1] = s.any()
	}
	return list(s.at(pick(s.maker, set(s.target(), x), set(s.target(), x), assert(c))))
}

func (s scope) leaving() []api.Stmt {
	switch {
	case (s.throws || s.isWrong(9)) && s.oneIn(2):
		return list(s.at(throw(s.from(1, 31))))
	case (s.returns || s.isWrong(9)) && s.oneIn(6):
		return list(s.at(back(s.any())))
	}
	return nil
}

func (s scope) nested() []api.Stmt {
	s.depth--
	inner := s
	inner.throws = true
	c := compare(s.from(api.CLt, api.CEq), s.any(), s.any())
	return list(pick(s.maker,
		func() api.Stmt { return s.at(choose(c, s.list(s.from(0, 3)), s.list(s.from(0, 2)))) },
		func() api.Stmt { return s.at(loop(s.from(1, 3), c, s.list(s.from(1, 2))...)) },
		func() api.Stmt { return s.at(try(s.target(), inner.list(s.from(1, 3)), s.list(s.from(0, 2)))) },
	)())
}

// mayTake says whether these locks may be taken. There are no circles if all that are held are less.
func (s scope) mayTake(locks int) bool {
	isFree := s.held&locks == 0
	if s.wild || s.tangled {
		return isFree || s.isWrong(6)
	}
	return isFree && s.held < locks&-locks || locks == 0
}

func (s scope) lock() []api.Stmt {
	n := pick(s.maker, s.own...)
	if !s.mayTake(1 << n) {
		return nil
	}
	*s.took |= 1 << n
	inner := s
	inner.held |= 1 << n
	inner.throws, inner.returns = false, false
	inner.depth--
	l := append(list(s.at(lock(n))), inner.list(s.from(1, 3))...)
	switch {
	case s.isWrong(12):
		return l
	case s.isWrong(12):
		n = pick(s.maker, s.own...)
	}
	return append(l, s.at(unlock(n)))
}

// call catches what a callee throws.
func (s scope) call() []api.Stmt {
	ids := slices.Sorted(maps.Keys(s.can))
	if len(ids) == 0 || s.apart {
		return nil
	}
	id := pick(s.maker, ids...)
	can := s.can[id]
	if !s.mayTake(can.locks) {
		return nil
	}
	*s.took |= can.locks
	var args []api.Expr
	for _, r := range can.params {
		args = append(args, s.fit(r))
	}
	l := list(s.at(call(pick(s.maker, -1, s.target()), id, args...)))
	if !s.isWrong(5) {
		l = append(list(s.at(use(can.part))), l...)
	}
	if can.throws && !s.throws && !s.isWrong(4) {
		return list(s.at(try(s.target(), l, nil)))
	}
	return l
}
