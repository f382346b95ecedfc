package machine_test

import (
	"fmt"
	"testing"

	"parole/api"
	"parole/machine"
)

// A signal says how statements end: they go on, or leave the activation with its result or an exception, or the run is over.
type signal int

const (
	goesOn signal = iota
	leaves
	raises
	over
)

// A frame is an activation of the model.
type frame struct {
	d      api.Def
	call   int // the site of the call
	vars   []api.Word
	refs   []*api.Word
	arrays [][]int
	marks  []int
	locks  map[int]bool
	cost   int
	result api.Word
	raised int
}

// A model runs definitions as the chapter says it, with signals in the place of panics. It also collects what is seen at all sites.
type model struct {
	p      api.Program
	l      []api.Answer
	parts  map[int]bool
	frames []*frame
	seen   int
	looks  map[int][]api.Look
	r      api.Run
}

// ran returns the run of a definition, and what is seen at each site.
func ran(p api.Program, id int, args, given []api.Word, l []api.Answer) (api.Run, map[int][]api.Look) {
	m := &model{p: p, l: l, parts: map[int]bool{0: true}, looks: map[int][]api.Look{}}
	d, _ := m.open(id)
	m.parts[d.Part] = true
	f := newFrame(d, 0, args, given)
	switch m.activation(f) {
	case leaves:
		m.r.How, m.r.W = api.HEnd, f.result
	case raises:
		m.r.How, m.r.Throw = api.HThrow, f.raised
	}
	m.r.Cost = f.cost
	for _, f := range m.frames {
		if f.call != 0 {
			m.r.Calls = append(m.r.Calls, f.call)
		}
	}
	return m.r, m.looks
}

func (m *model) open(id int) (api.Def, bool) {
	for _, d := range m.p.Defs {
		if d.Id == id {
			return d, true
		}
	}
	return api.Def{}, false
}

func (m *model) head(id int) api.Head {
	for _, h := range m.p.Heads {
		if h.Id == id {
			return h
		}
	}
	panic("no head")
}

func newFrame(d api.Def, call int, args, given []api.Word) *frame {
	f := &frame{d: d, call: call, vars: make([]api.Word, d.Vars), refs: make([]*api.Word, d.Refs), marks: make([]int, len(d.Arrays)), locks: map[int]bool{}}
	copy(f.vars, args)
	for i := range given {
		f.refs[i] = &api.Word{V: given[i].V, Mask: given[i].Mask}
	}
	for _, a := range d.Arrays {
		n := a.Len
		if a.Of > 0 && args[a.Of-1].V < n {
			n = args[a.Of-1].V
		}
		f.arrays = append(f.arrays, make([]int, max(n, 0)))
	}
	return f
}

// look notes what is seen at a site.
func (m *model) look(f *frame, site int) {
	var l api.Look
	for _, w := range f.vars {
		l.Vars = append(l.Vars, w.V)
	}
	for _, a := range f.arrays {
		l.Lens = append(l.Lens, len(a))
	}
	m.looks[site] = append(m.looks[site], l)
}

func (m *model) activation(f *frame) signal {
	m.frames = append(m.frames, f)
	how := m.list(f, f.d.Body)
	if how == over {
		return over
	}
	if how == goesOn {
		f.result, how = api.Word{}, leaves
	}
	m.look(f, f.d.Site)
	for _, r := range f.refs {
		if r != nil {
			return m.fail(f.d.Site, api.KLeak)
		}
	}
	if len(f.locks) > 0 {
		return m.fail(f.d.Site, api.KHeld)
	}
	if f.cost > f.d.Budget {
		return m.fail(f.d.Site, api.KCost)
	}
	m.frames = m.frames[:len(m.frames)-1]
	return how
}

func (m *model) fail(site, kind int) signal {
	m.r.How, m.r.Fail = api.HFail, api.Failure{Site: site, Kind: kind}
	return over
}

// due says whether a statement can be executed, and counts it.
func (m *model) due(f *frame, site int) bool {
	if m.seen == 20000 {
		m.r.How = api.HFuel
		return false
	}
	m.seen++
	for _, g := range m.frames {
		g.cost++
	}
	m.look(f, site)
	return true
}

func (m *model) list(f *frame, l []api.Stmt) signal {
	for _, s := range l {
		how := signal(0)
		if s.Op == api.SWhile {
			how = m.loop(f, s)
		} else if m.due(f, s.Site) {
			how = m.statement(f, s)
		} else {
			how = over
		}
		if how != goesOn {
			return how
		}
	}
	return goesOn
}

func (m *model) loop(f *frame, s api.Stmt) signal {
	for times := 0; times < s.V; times++ {
		if !m.due(f, s.Site) {
			return over
		}
		if !f.holds(s.C) {
			break
		}
		if how := m.list(f, s.Body); how != goesOn {
			return how
		}
	}
	return goesOn
}

func (m *model) statement(f *frame, s api.Stmt) signal {
	switch s.Op {
	case api.SSet:
		f.vars[s.N] = f.word(s.X)
	case api.SLoad, api.SStore:
		i := f.value(s.X)
		if i < 0 || i >= len(f.arrays[s.M]) {
			return m.fail(s.Site, api.KIndex)
		}
		if s.Op == api.SLoad {
			f.vars[s.N] = api.Word{V: f.arrays[s.M][i], Mask: f.marks[s.M]}
		} else {
			f.arrays[s.M][i] = f.value(s.Y)
			f.marks[s.M] |= f.classes(s.Y)
		}
	case api.SNew, api.SFree, api.SMove, api.SPut, api.SGet:
		return m.reference(f, s)
	case api.SIf:
		if f.holds(s.C) {
			return m.list(f, s.Body)
		}
		return m.list(f, s.Else)
	case api.SCall:
		return m.call(f, s)
	case api.SThrow:
		f.raised = s.V
		return raises
	case api.STry:
		how := m.list(f, s.Body)
		if how != raises {
			return how
		}
		f.vars[s.N] = api.Word{V: f.raised}
		f.raised = 0
		return m.list(f, s.Else)
	case api.SAssert:
		if !f.holds(s.C) {
			return m.fail(s.Site, api.KAssert)
		}
	case api.SReturn:
		f.result = f.word(s.X)
		return leaves
	default:
		return m.operation(f, s)
	}
	return goesOn
}

func (m *model) reference(f *frame, s api.Stmt) signal {
	needed := map[int]int{api.SFree: s.N, api.SMove: s.M, api.SPut: s.N, api.SGet: s.M}
	if n, needs := needed[s.Op]; needs && f.refs[n] == nil {
		return m.fail(s.Site, api.KUse)
	}
	lost := s.Op == api.SNew || s.Op == api.SMove && s.N != s.M
	if lost && f.refs[s.N] != nil {
		return m.fail(s.Site, api.KLeak)
	}
	switch s.Op {
	case api.SNew:
		f.refs[s.N] = &api.Word{}
	case api.SFree:
		f.refs[s.N] = nil
	case api.SMove:
		r := f.refs[s.M]
		f.refs[s.M] = nil
		f.refs[s.N] = r
	case api.SPut:
		x := f.word(s.X)
		f.refs[s.N] = &x
	case api.SGet:
		f.vars[s.N] = *f.refs[s.M]
	}
	return goesOn
}

// operation does what is visible, but for calls.
func (m *model) operation(f *frame, s api.Stmt) signal {
	var kind int
	var x api.Word
	switch s.Op {
	case api.SRead:
		kind = api.VRead
	case api.SRecv:
		kind = api.VRecv
	case api.SSource:
		kind = api.VSource
	case api.SWrite:
		kind, x = api.VWrite, f.word(s.X)
		if !in(x, m.p.D.Globals[s.M]) {
			return m.fail(s.Site, api.KRange)
		}
	case api.SSend:
		kind, x = api.VSend, f.word(s.X)
		if !in(x, m.p.D.Queues[s.M].R) {
			return m.fail(s.Site, api.KRange)
		}
	case api.SSink:
		kind, x = api.VSink, f.word(s.X)
		if x.Mask|m.p.D.Sinks[s.M] != m.p.D.Sinks[s.M] {
			return m.fail(s.Site, api.KTaint)
		}
	case api.SLock:
		kind = api.VLock
		for _, g := range m.frames {
			if g.locks[s.M] {
				return m.fail(s.Site, api.KRelock)
			}
		}
	case api.SUnlock:
		kind = api.VUnlock
		if !f.locks[s.M] {
			return m.fail(s.Site, api.KUnlock)
		}
	case api.SUse:
		kind = api.VUse
	}
	e := api.Event{Kind: kind, Def: f.d.Id, Site: s.Site, N: s.M, W: x}
	if len(m.l) == 0 {
		m.r.How, m.r.Next = api.HWait, e
		return over
	}
	switch kind {
	case api.VRead, api.VRecv, api.VSource:
		e.W = m.l[0].W
		f.vars[s.N] = e.W
	case api.VLock:
		f.locks[s.M] = true
	case api.VUnlock:
		delete(f.locks, s.M)
	case api.VUse:
		m.parts[s.M] = true
	}
	m.l = m.l[1:]
	m.r.Used++
	m.r.Ev = append(m.r.Ev, e)
	return goesOn
}

func (m *model) call(f *frame, s api.Stmt) signal {
	h := m.head(s.M)
	if !m.parts[h.Part] {
		return m.fail(s.Site, api.KPart)
	}
	e := api.Event{Kind: api.VCall, Def: f.d.Id, Site: s.Site, N: s.M}
	for i := range s.Args {
		e.Args = append(e.Args, f.word(s.Args[i]))
		if !in(e.Args[i], h.Params[i]) {
			return m.fail(s.Site, api.KPre)
		}
	}
	for i, n := range s.Ptrs {
		if f.refs[n] == nil {
			return m.fail(s.Site, api.KUse)
		}
		e.Args = append(e.Args, *f.refs[n])
		if !in(*f.refs[n], h.Given[i]) {
			return m.fail(s.Site, api.KPre)
		}
		f.refs[n] = nil
	}
	end := api.Event{Kind: api.VReturn, Def: s.M, Site: s.Site, N: s.M}
	if d, ok := m.open(s.M); ok {
		m.r.Ev = append(m.r.Ev, e)
		g := newFrame(d, s.Site, e.Args[:len(s.Args)], e.Args[len(s.Args):])
		switch m.activation(g) {
		case over:
			return over
		case leaves:
			end.W = g.result
		case raises:
			end.Throw = g.raised
		}
	} else {
		if len(m.l) == 0 {
			m.r.How, m.r.Next = api.HWait, e
			return over
		}
		m.r.Ev = append(m.r.Ev, e)
		end.Throw = m.l[0].Throw
		if end.Throw == 0 {
			end.W = m.l[0].W
		}
		m.l = m.l[1:]
		m.r.Used++
	}
	m.r.Ev = append(m.r.Ev, end)
	if end.Throw != 0 {
		f.raised = end.Throw
		return raises
	}
	if s.N >= 0 {
		f.vars[s.N] = end.W
	}
	return goesOn
}

func in(x api.Word, r api.Range) bool {
	return x.V >= r.Lo && x.V <= r.Hi && x.Mask|r.Mask == r.Mask
}

func (f *frame) word(e api.Expr) api.Word { return api.Word{V: f.value(e), Mask: f.classes(e)} }

func (f *frame) value(e api.Expr) int {
	switch e.Op {
	case api.ENum:
		return e.V
	case api.EVar:
		return f.vars[e.N].V
	case api.ELen:
		return len(f.arrays[e.N])
	}
	a, b := f.value(e.A[0]), f.value(e.A[1])
	switch e.Op {
	case api.EAdd:
		return int(int32(a + b))
	case api.ESub:
		return int(int32(a - b))
	case api.EMul:
		return int(int32(a * b))
	case api.EDiv:
		if b == 0 {
			return 0
		}
		return int(int32(a / b))
	case api.EMod:
		if b == 0 {
			return a
		}
		return a % b
	case api.EMin:
		return min(a, b)
	}
	return max(a, b)
}

func (f *frame) classes(e api.Expr) int {
	mask := 0
	if e.Op == api.EVar {
		mask = f.vars[e.N].Mask
	}
	for _, a := range e.A {
		mask |= f.classes(a)
	}
	return mask
}

func (f *frame) holds(c api.Cond) bool {
	switch c.Op {
	case api.CTrue:
		return true
	case api.CLt:
		return f.value(c.A[0]) < f.value(c.A[1])
	case api.CLe:
		return f.value(c.A[0]) <= f.value(c.A[1])
	case api.CEq:
		return f.value(c.A[0]) == f.value(c.A[1])
	case api.CNot:
		return !f.holds(c.C[0])
	case api.CAnd:
		return f.holds(c.C[0]) && f.holds(c.C[1])
	}
	return f.holds(c.C[0]) || f.holds(c.C[1])
}

// allSites returns the sites of all statements and definitions.
func allSites(p api.Program) []int {
	var l []int
	var walk func([]api.Stmt)
	walk = func(body []api.Stmt) {
		for _, s := range body {
			l = append(l, s.Site)
			walk(s.Body)
			walk(s.Else)
		}
	}
	for _, d := range p.Defs {
		walk(d.Body)
		l = append(l, d.Site)
	}
	return l
}

// someOf returns n elements of a list, or all of them if there are less.
func (m maker) someOf(l []int, n int) []int {
	m.r.Shuffle(len(l), func(i, j int) { l[i], l[j] = l[j], l[i] })
	return l[:min(n, len(l))]
}

// A tally counts what runs have shown.
type tally map[string]int

func (c tally) add(r api.Run) {
	c[fmt.Sprint("how ", r.How)]++
	if r.How == api.HFail {
		c[fmt.Sprint("kind ", r.Fail.Kind)]++
	}
	for _, e := range r.Ev {
		c[fmt.Sprint("event ", e.Kind)]++
	}
	if len(r.Calls) > 1 {
		c["deep"]++
	}
}

// needs tests that all of these have been seen, some times.
func (c tally) needs(t *testing.T, names string, of ...int) {
	t.Helper()
	for _, n := range of {
		if k := c[fmt.Sprint(names, " ", n)]; k < 10 {
			t.Errorf("%s %d has been seen %d times", names, n, k)
		}
	}
}

// P8.1: against the model, for programs that are calm, and others.
func TestModel(t *testing.T) {
	m, count := newMaker(1), tally{}
	for i := range 2500 {
		p := m.calm()
		if i%8 > 0 {
			p = m.risky(p)
		}
		for _, d := range p.Defs {
			args, given, l := m.words(d.Params), m.words(d.Given), m.answers()
			want, looks := ran(p, d.Id, args, given, l)
			count.add(want)
			if r := machine.Run(p, d.Id, args, given, l); !same(r, want) {
				t.Fatalf("the run of %d is\n%+v, not\n%+v\n%+v", d.Id, r, want, p)
			}
			for _, site := range m.someOf(allSites(p), 5) {
				if l := machine.Seen(p, d.Id, site, args, given, l); !same(l, looks[site]) {
					t.Fatalf("at site %d in the run of %d is seen\n%+v, not\n%+v\n%+v", site, d.Id, l, looks[site], p)
				}
			}
		}
	}
	count.needs(t, "how", api.HEnd, api.HThrow, api.HFail, api.HWait)
	count.needs(t, "kind", api.KIndex, api.KUse, api.KLeak, api.KRelock, api.KUnlock, api.KHeld, api.KTaint, api.KCost, api.KAssert, api.KPre, api.KRange, api.KPart)
	count.needs(t, "event", api.VRead, api.VWrite, api.VSource, api.VSink, api.VLock, api.VUnlock, api.VSend, api.VRecv, api.VUse, api.VCall, api.VReturn)
}
