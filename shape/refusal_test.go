package shape_test

import (
	"slices"
	"testing"

	"parole/api"
	"parole/shape"
)

// family returns a right program: 1 calls 2 and 3 and the closed 9, and 2 calls 3. 3 has a parameter, 9 a parameter and two given records, and 1 and 2 are threads.
func family() api.Program {
	three := holding(example(api.SLoad))
	three.Id, three.Site, three.Given = 3, 300, nil
	three.Body[0].Site = 301
	bare := func(id int, l ...api.Stmt) api.Def {
		for i := range l {
			l[i].Site = 100*id + i + 1
		}
		return api.Def{Id: id, Site: 100 * id, Name: "g", Refs: 2, Budget: 5, Body: l}
	}
	two := bare(2, api.Stmt{Op: api.SCall, N: -1, M: 3, Args: []api.Expr{num(1)}})
	one := bare(1, api.Stmt{Op: api.SCall, N: -1, M: 2}, api.Stmt{Op: api.SCall, N: -1, M: 3, Args: []api.Expr{num(2)}}, api.Stmt{Op: api.SCall, N: -1, M: 9, Args: []api.Expr{num(2)}, Ptrs: []int{1, 0}})
	closed := api.Head{Id: 9, Firm: 6, Part: 5, Params: []api.Range{{Hi: 4}}, Given: []api.Range{{Hi: 5}, {Hi: 6}}}
	return api.Program{
		D:       decl(),
		Heads:   []api.Head{shape.Head(one), shape.Head(two), shape.Head(three), closed},
		Defs:    []api.Def{one, two, three},
		Threads: []int{1, 2, 1, 2},
	}
}

// refusing changes right programs one by one, and expects errors of all.
func refusing(t *testing.T, want api.Errno, changes ...func(p *api.Program)) {
	t.Helper()
	for i, f := range changes {
		p := family()
		accepted(t, p, api.OK)
		f(&p)
		if e := shape.Program(p); e != want {
			t.Errorf("case %d: %d, not %d", i, e, want)
		}
	}
}

// P6.6: two equal sites, or Ids, or Ids out of order.
func TestEqualSitesAndIds(t *testing.T) {
	refusing(t, api.ErrShape,
		func(p *api.Program) { p.Defs[0].Site = 200 },
		func(p *api.Program) { p.Defs[0].Site = 301 },
		func(p *api.Program) { p.Defs[0].Body[1].Site = 300 },
		func(p *api.Program) { p.Defs[0].Body[1].Site = 301 },
		func(p *api.Program) { p.Defs[0].Body[1].Site = 100 },
		func(p *api.Program) { p.Defs[0].Body[1].Site = 101 },
		func(p *api.Program) { p.Defs[2].Body[0].Site = 103 },
		func(p *api.Program) { p.Heads[3].Id = 3 },
		func(p *api.Program) { p.Heads[3].Id = 2 },
		func(p *api.Program) { p.Heads[0], p.Heads[1] = p.Heads[1], p.Heads[0] },
		func(p *api.Program) { p.Heads[2], p.Heads[3] = p.Heads[3], p.Heads[2] },
		func(p *api.Program) { p.Heads = append(p.Heads, p.Heads[3]) },
		func(p *api.Program) { p.Defs[0], p.Defs[1] = p.Defs[1], p.Defs[0] },
		func(p *api.Program) { p.Defs[1], p.Defs[2] = p.Defs[2], p.Defs[1] },
		func(p *api.Program) { p.Defs = append(p.Defs, p.Defs[2]) },
		func(p *api.Program) { p.Defs[1].Id = 1 },
		func(p *api.Program) { p.Defs = []api.Def{p.Defs[2], p.Defs[2]} },
	)
}

// P6.6: definitions and calls without a head, or with another one.
func TestHeads(t *testing.T) {
	refusing(t, api.ErrShape,
		func(p *api.Program) { p.Heads = p.Heads[:3] },
		func(p *api.Program) { p.Heads = p.Heads[1:] },
		func(p *api.Program) { p.Heads = nil },
		func(p *api.Program) { p.Heads = slices.Delete(p.Heads, 2, 3) },
		func(p *api.Program) { p.Heads[3].Id = 10 },
		func(p *api.Program) { p.Defs[0].Body[2].M = 8 },
		func(p *api.Program) { p.Defs[0].Body[2].M = 10 },
		func(p *api.Program) { p.Heads[2].Firm = 2 },
		func(p *api.Program) { p.Heads[2].Part = 3 },
		func(p *api.Program) { p.Heads[2].Params = []api.Range{{Lo: 0, Hi: 4}} },
		func(p *api.Program) { p.Heads[2].Params = []api.Range{{Lo: 0, Hi: 3, Mask: 1}} },
		func(p *api.Program) { p.Heads[2].Params = append(p.Heads[2].Params, api.Range{}) },
		func(p *api.Program) { p.Heads[2].Given = []api.Range{{}} },
		func(p *api.Program) { p.Defs[2].Firm = 0 },
		func(p *api.Program) { p.Defs[2].Part = 1 },
		func(p *api.Program) { p.Defs[2].Given = []api.Range{{}} },
	)
}

// P6.6: heads of closed definitions that are not right.
func TestClosedHeads(t *testing.T) {
	refusing(t, api.ErrShape,
		func(p *api.Program) { p.Heads[3].Firm = 7 },
		func(p *api.Program) { p.Heads[3].Firm = -1 },
		func(p *api.Program) { p.Heads[3].Part = 6 },
		func(p *api.Program) { p.Heads[3].Part = -1 },
		func(p *api.Program) { p.Heads[3].Params = []api.Range{{Lo: 1}} },
		func(p *api.Program) { p.Heads[3].Given = []api.Range{{}, {Mask: 256}} },
		func(p *api.Program) { p.Heads = append(p.Heads, api.Head{Id: 10, Params: make([]api.Range, 13)}) },
		func(p *api.Program) { p.Heads = append(p.Heads, api.Head{Id: 10, Given: make([]api.Range, 5)}) },
		func(p *api.Program) { p.Heads = append(p.Heads, api.Head{Id: maxId + 1}) },
		func(p *api.Program) { p.Heads = slices.Insert(p.Heads, 0, api.Head{}) },
		func(p *api.Program) { p.Heads = slices.Insert(p.Heads, 0, api.Head{Id: -1}) },
	)
	refusing(t, api.OK,
		func(p *api.Program) {
			p.Heads = append(p.Heads, api.Head{Id: maxId, Params: make([]api.Range, 12), Given: make([]api.Range, 4)})
		},
		func(p *api.Program) { p.Heads = append(p.Heads, api.Head{Id: 10, Firm: 6, Part: 5}) },
		func(p *api.Program) { p.Threads = nil },
		func(p *api.Program) { p.Threads, p.Defs = nil, nil },
		func(p *api.Program) { p.Threads, p.Defs, p.Heads = nil, nil, nil },
		func(p *api.Program) { p.Heads[0].Params, p.Heads[0].Given = []api.Range{}, []api.Range{} },
	)
}

// P6.6: a wrong number of arguments, also of calls within statements.
func TestArguments(t *testing.T) {
	within := func(p *api.Program) *api.Stmt {
		s := p.Defs[0].Body[1]
		s.Site = 150
		p.Defs[0].Body[1] = api.Stmt{Site: 151, Op: api.SIf, C: always(), Else: []api.Stmt{s}}
		return &p.Defs[0].Body[1].Else[0]
	}
	refusing(t, api.ErrShape,
		func(p *api.Program) { p.Defs[0].Body[0].Args = []api.Expr{num(1)} },
		func(p *api.Program) { p.Defs[0].Body[0].Ptrs = []int{0} },
		func(p *api.Program) { p.Defs[0].Body[1].Args = nil },
		func(p *api.Program) { p.Defs[0].Body[1].Args = []api.Expr{num(1), num(1)} },
		func(p *api.Program) { p.Defs[0].Body[2].Ptrs = []int{0} },
		func(p *api.Program) { p.Defs[0].Body[2].Ptrs = []int{0, 1, 0} },
		func(p *api.Program) { p.Defs[0].Body[2].Args, p.Defs[0].Body[2].Ptrs = make([]api.Expr, 2), []int{0} },
		func(p *api.Program) { p.Defs[0].Body[2].Args = nil },
		func(p *api.Program) { within(p).Args = nil },
		func(p *api.Program) { within(p).M = 4 },
	)
	refusing(t, api.OK, func(p *api.Program) { within(p) })
}

// P6.6: threads that there are not, that are closed, or that have parameters or given records.
func TestThreads(t *testing.T) {
	refusing(t, api.ErrShape,
		func(p *api.Program) { p.Threads = []int{1, 1, 1, 1, 1} },
		func(p *api.Program) { p.Threads = []int{1, 4} },
		func(p *api.Program) { p.Threads = []int{0} },
		func(p *api.Program) { p.Threads = []int{-1} },
		func(p *api.Program) { p.Threads = []int{3} },
		func(p *api.Program) { p.Threads = []int{9} },
		func(p *api.Program) { p.Defs[1].Given, p.Heads[1].Given = []api.Range{{}}, []api.Range{{}} },
		func(p *api.Program) { p.Threads, p.Heads = []int{1, 10}, append(p.Heads, api.Head{Id: 10}) },
	)
}

// P6.6: a thread with a parameter, or a given record, alone.
func TestThreadsTakeNothing(t *testing.T) {
	for k := range 4 {
		p := calling(map[int][]int{1: nil})
		p.Threads = []int{1}
		d := &p.Defs[0]
		if k&1 > 0 {
			d.Params, d.Vars = []api.Range{{}}, 1
		}
		if k&2 > 0 {
			d.Given, d.Refs = []api.Range{{}}, 1
		}
		p.Heads[0] = shape.Head(*d)
		want := api.ErrShape
		if k == 0 {
			want = api.OK
		}
		accepted(t, p, want)
	}
}

// P6.6: parts of a program that are not right.
func TestWrongParts(t *testing.T) {
	refusing(t, api.ErrShape,
		func(p *api.Program) { p.D.Firms = 9 },
		func(p *api.Program) { p.D.Sinks[0] = 256 },
		func(p *api.Program) { p.D.Parts = 5 },
		func(p *api.Program) { p.D.Firms = 6 },
		func(p *api.Program) { p.Defs[2].Body[0].X = variable(9) },
		func(p *api.Program) { p.Defs[2].Body[0].M = 2 },
		func(p *api.Program) { p.Defs[1].Name = "" },
		func(p *api.Program) { p.Defs[1].Budget = 0 },
	)
}

// P6.6: there are at most 40 heads.
func TestManyHeads(t *testing.T) {
	for n, want := range map[int]api.Errno{39: api.OK, 40: api.OK, 41: api.ErrShape} {
		p := api.Program{D: decl()}
		for id := range n {
			d := api.Def{Id: id + 1, Site: id + 1, Name: "f", Budget: 1}
			p.Defs, p.Heads = append(p.Defs, d), append(p.Heads, shape.Head(d))
		}
		accepted(t, p, want)
		p.Defs = nil
		accepted(t, p, want)
	}
}

// P6.6: circles of open definitions, but only if all else is right.
func TestCircles(t *testing.T) {
	for i, c := range []struct {
		calls map[int][]int
		want  api.Errno
	}{
		{map[int][]int{1: {1}}, api.ErrCycle},
		{map[int][]int{1: {0}}, api.OK},
		{map[int][]int{1: {2}, 2: {1}}, api.ErrCycle},
		{map[int][]int{1: {2}, 2: {2}, 3: nil}, api.ErrCycle},
		{map[int][]int{1: {2}, 2: {3}, 3: {1}}, api.ErrCycle},
		{map[int][]int{1: nil, 2: {1, 4}, 3: {2}, 4: {5}, 5: {3}}, api.ErrCycle},
		{map[int][]int{1: {2, 3}, 2: {4}, 3: {4}, 4: {0, 0}}, api.OK},
		{map[int][]int{1: {2, 3}, 2: {3}, 3: nil}, api.OK},
		{map[int][]int{1: {2}, 2: {3, 1, 3}, 3: nil}, api.ErrCycle},
	} {
		p := calling(c.calls)
		if e := shape.Program(p); e != c.want {
			t.Errorf("case %d: %d, not %d", i, e, c.want)
		}
		p.Threads = []int{100}
		accepted(t, p, api.ErrShape)
		p.Threads = nil
		p.D.Parts = 0
		accepted(t, p, api.ErrShape)
	}
}

// P6.6: a circle through statements of statements, and one that is closed at one of its definitions.
func TestCirclesWithin(t *testing.T) {
	p := calling(map[int][]int{1: {2}, 2: {3}, 3: {1}})
	for _, s := range []api.Stmt{{Op: api.SIf, C: always()}, {Op: api.SWhile, V: 1, C: always()}} {
		s.Site, s.Body = 77, p.Defs[1].Body
		q := p
		q.Defs = slices.Clone(p.Defs)
		q.Defs[1].Body = []api.Stmt{s}
		accepted(t, q, api.ErrCycle)
		if s.Op == api.SIf {
			q.Defs[1].Body[0].Body, q.Defs[1].Body[0].Else = nil, p.Defs[1].Body
			accepted(t, q, api.ErrCycle)
		}
	}
	for i := range p.Defs {
		q := p
		q.Defs = slices.Delete(slices.Clone(p.Defs), i, i+1)
		accepted(t, q, api.OK)
	}
}
