package shape_test

import (
	"slices"
	"testing"

	"parole/api"
	"parole/shape"
)

// P6.1, F2.
func TestHead(t *testing.T) {
	h := shape.Head(holding(example(api.SLock)))
	if want := (api.Head{Id: 7, Firm: 1, Part: 2, Params: []api.Range{{Lo: 0, Hi: 3}}, Given: []api.Range{{Lo: -2, Hi: 2, Mask: 5}}}); !same(h, want) {
		t.Error(h)
	}
	if h := shape.Head(api.Def{Id: 3, Site: 4, Name: "f", Vars: 5, Refs: 4, Budget: 6}); !same(h, api.Head{Id: 3}) {
		t.Error(h)
	}
}

// tree has statements in the order of their sites.
func tree() api.Def {
	lock := func(site int) api.Stmt { return api.Stmt{Site: site, Op: api.SLock} }
	return holding(
		lock(1),
		api.Stmt{Site: 2, Op: api.SIf, C: always(), Body: []api.Stmt{
			{Site: 3, Op: api.STry, N: 1, Body: []api.Stmt{lock(4)}, Else: []api.Stmt{lock(5), lock(6)}}, lock(7),
		}, Else: []api.Stmt{
			{Site: 8, Op: api.SWhile, V: 3, C: always(), Body: []api.Stmt{lock(9), lock(10)}}, {Site: 11, Op: api.SIf, C: always(), Else: []api.Stmt{lock(12)}},
		}},
		lock(13),
	)
}

// P6.1, P6.3, F2.
func TestSitesInOrder(t *testing.T) {
	if l := shape.Sites(tree()); !slices.Equal(l, append(between(1, 13), 9000)) {
		t.Error(l)
	}
	if l := shape.Sites(holding()); !slices.Equal(l, []int{9000}) {
		t.Error(l)
	}
	for site, op := range map[int]int{2: api.SIf, 3: api.STry, 6: api.SLock, 8: api.SWhile, 12: api.SLock, 13: api.SLock} {
		if s, ok := shape.At(tree(), site); !ok || s.Site != site || s.Op != op {
			t.Errorf("At %d: %+v, %v", site, s, ok)
		}
	}
	if s, _ := shape.At(tree(), 2); !same(s, tree().Body[1]) {
		t.Error(s)
	}
}

// P6.3: Sites lists each statement once; At finds exactly these, and nothing at the end of the definition or elsewhere.
func TestSitesAndAt(t *testing.T) {
	m := newMaker(11)
	for i := range 1000 {
		d := newScope(m).def(5, i%8)
		l := shape.Sites(d)
		if !slices.Equal(l, append(sitesOf(d.Body), d.Site)) || !different(l) {
			t.Fatalf("%+v has the sites %v", d, l)
		}
		for site := -1; site <= d.Site+3; site++ {
			s, ok := shape.At(d, site)
			if want := site != d.Site && slices.Contains(l, site); ok != want {
				t.Fatalf("At %d of %+v: %v", site, d, ok)
			} else if ok && s.Site != site || !ok && !same(s, api.Stmt{}) {
				t.Fatalf("At %d of %+v: %+v", site, d, s)
			}
		}
		for _, site := range []int{1 << 62, -1 << 63, 1<<32 + l[0]} {
			if s, ok := shape.At(d, site); ok || !same(s, api.Stmt{}) {
				t.Fatalf("At %d of %+v: %+v", site, d, s)
			}
		}
	}
}

// P6.1, F2: statements that call are found wherever they stand, and what they call is there once, in order.
func TestCallsInOrder(t *testing.T) {
	call := func(site, id int) api.Stmt { return api.Stmt{Site: site, Op: api.SCall, N: -1, M: id} }
	d := holding(
		call(1, 50), api.Stmt{Site: 2, Op: api.SIf, C: always(), Body: []api.Stmt{call(3, 7), call(4, maxId)}, Else: []api.Stmt{call(5, 50), call(6, 1)}},
		api.Stmt{Site: 8, Op: api.SRead, N: 1, M: 1}, api.Stmt{Site: 9, Op: api.SWhile, V: 3, C: always(), Body: []api.Stmt{call(10, 9)}}, call(11, 7),
	)
	accepts(t, d)
	if l := shape.Calls(d); !slices.Equal(l, []int{1, 7, 9, 50, maxId}) {
		t.Error(l)
	}
	if l := shape.Calls(tree()); len(l) != 0 {
		t.Error(l)
	}
	m := newMaker(12)
	for i := range 500 {
		d := newScope(m).def(5, i%10)
		var want []int
		for _, s := range callsOf(d.Body) {
			want = append(want, s.M)
		}
		slices.Sort(want)
		if l := shape.Calls(d); !slices.Equal(l, slices.Compact(want)) {
			t.Fatalf("%+v calls %v", d, l)
		}
	}
}

// P6.1, F3.
func TestFindAndHeadOf(t *testing.T) {
	m := newMaker(13)
	for range 300 {
		p := m.program()
		for id := -1; id < 30; id++ {
			i := slices.IndexFunc(p.Defs, func(d api.Def) bool { return d.Id == id })
			k := slices.IndexFunc(p.Heads, func(h api.Head) bool { return h.Id == id })
			d, open := shape.Find(p, id)
			h, known := shape.HeadOf(p, id)
			if open != (i >= 0) || known != (k >= 0) {
				t.Fatalf("%d in %+v: %v %v", id, p, open, known)
			}
			if open && !same(d, p.Defs[i]) || !open && !same(d, api.Def{}) {
				t.Fatalf("%d in %+v: %+v", id, p, d)
			}
			if known && !same(h, p.Heads[k]) || !known && !same(h, api.Head{}) {
				t.Fatalf("%d in %+v: %+v", id, p, h)
			}
		}
		for _, id := range []int{maxId - 2, maxId + 1, 1 << 62, -1 << 63} {
			_, open := shape.Find(p, id)
			_, known := shape.HeadOf(p, id)
			if open || known {
				t.Fatalf("%d in %+v", id, p)
			}
		}
		if _, known := shape.HeadOf(p, maxId); !known {
			t.Fatalf("%+v", p.Heads)
		}
	}
	if _, open := shape.Find(api.Program{}, 0); open {
		t.Error("a definition of nothing")
	}
}

// calling returns a program with these calls, by Ids; 0 stands for a definition that is closed.
func calling(calls map[int][]int) api.Program {
	p := api.Program{D: decl()}
	for id := 1; id <= 60; id++ {
		l, open := calls[id]
		if !open {
			continue
		}
		d := api.Def{Id: id, Site: 100000 + id, Name: "f", Budget: 1}
		for i, callee := range l {
			if callee == 0 {
				callee = 100
			}
			d.Body = append(d.Body, api.Stmt{Site: 1000*id + i + 1, Op: api.SCall, N: -1, M: callee})
		}
		p.Defs, p.Heads = append(p.Defs, d), append(p.Heads, shape.Head(d))
	}
	p.Heads = append(p.Heads, api.Head{Id: 100})
	return p
}

// P6.1, P6.4, F3: the least one that is possible comes first, again and again.
func TestOrder(t *testing.T) {
	for i, c := range []struct {
		calls map[int][]int
		want  []int
	}{
		{map[int][]int{}, nil},
		{map[int][]int{5: nil}, []int{5}},
		{map[int][]int{1: nil, 2: nil, 3: nil}, []int{1, 2, 3}},
		{map[int][]int{1: {2}, 2: {3}, 3: nil}, []int{3, 2, 1}},
		{map[int][]int{1: {4}, 2: nil, 3: nil, 4: nil}, []int{2, 3, 4, 1}},
		{map[int][]int{1: {3}, 2: nil, 3: nil, 4: {1}, 5: nil}, []int{2, 3, 1, 4, 5}},
		{map[int][]int{1: {5}, 2: {1}, 3: nil, 5: nil, 6: nil}, []int{3, 5, 1, 2, 6}},
		{map[int][]int{1: {0}, 2: {0, 1}, 3: {0}}, []int{1, 2, 3}},
		{map[int][]int{3: nil, 5: {8, 3, 8}, 8: {3}}, []int{3, 8, 5}},
		{map[int][]int{1: {2, 3}, 2: {4}, 3: {4}, 4: nil, 5: {1}, 6: nil}, []int{4, 2, 3, 1, 5, 6}},
	} {
		p := calling(c.calls)
		if e := shape.Program(p); e != api.OK {
			t.Errorf("case %d is not right: %d", i, e)
		}
		if l := shape.Order(p); !slices.Equal(l, c.want) {
			t.Errorf("case %d: %v, not %v", i, l, c.want)
		}
	}
}

// P6.4: callees come ahead of their callers, each open definition is there once, and none could have come ahead of a greater one.
func TestOrderOfPrograms(t *testing.T) {
	m := newMaker(14)
	for range 1000 {
		p := m.program()
		l := shape.Order(p)
		left := map[int][]int{}
		for _, d := range p.Defs {
			for _, s := range callsOf(d.Body) {
				if slices.ContainsFunc(p.Defs, func(d api.Def) bool { return d.Id == s.M }) {
					left[d.Id] = append(left[d.Id], s.M)
				}
			}
		}
		if len(l) != len(p.Defs) || !different(l) {
			t.Fatalf("%v of %+v", l, p)
		}
		var there []int
		for _, id := range l {
			for _, d := range p.Defs {
				ready := !slices.ContainsFunc(left[d.Id], func(c int) bool { return !slices.Contains(there, c) })
				if d.Id == id && !ready || d.Id < id && ready && !slices.Contains(there, d.Id) {
					t.Fatalf("%v of %+v: %d at %d", l, p, id, d.Id)
				}
			}
			there = append(there, id)
		}
	}
}

// P6.4: the greatest programs, in which each definition calls as many as it can.
func TestOrderOfManyCalls(t *testing.T) {
	calls, want := map[int][]int{}, []int{}
	for id := 39; id >= 1; id-- {
		for k := id + 1; k <= 39; k++ {
			calls[id] = append(calls[id], slices.Repeat([]int{k}, 5)...)
		}
		calls[id] = append(calls[id], 0)
		want = append(want, id)
	}
	p := calling(calls)
	if e := shape.Program(p); e != api.OK {
		t.Fatal(e)
	}
	if l := shape.Order(p); !slices.Equal(l, want) {
		t.Error(l)
	}
}

// P6.5: a program stays right when any definitions that are no threads are closed.
func TestClosing(t *testing.T) {
	m := newMaker(15)
	closed := 0
	for range 500 {
		p := m.program()
		for i, d := range p.Defs {
			if slices.Contains(p.Threads, d.Id) {
				continue
			}
			q := p
			q.Defs = slices.Delete(slices.Clone(p.Defs), i, i+1)
			if e := shape.Program(q); e != api.OK {
				t.Fatalf("%+v without %d: %d", p, d.Id, e)
			}
			var want []int
			for _, d := range q.Defs {
				want = append(want, d.Id)
			}
			l := shape.Order(q)
			slices.Sort(l)
			if !slices.Equal(l, want) {
				t.Fatalf("%+v without %d has the order %v", p, d.Id, l)
			}
			closed++
		}
		p.Defs = slices.DeleteFunc(slices.Clone(p.Defs), func(d api.Def) bool { return !slices.Contains(p.Threads, d.Id) })
		if e := shape.Program(p); e != api.OK {
			t.Fatalf("%+v: %d", p, e)
		}
	}
	if closed < 500 {
		t.Error("few are closed:", closed)
	}
}

// P6.5: but a thread has to be open.
func TestClosingThreads(t *testing.T) {
	p := calling(map[int][]int{1: {2}, 2: nil})
	p.Threads = []int{1}
	accepted(t, p, api.OK)
	p.Defs = p.Defs[1:]
	accepted(t, p, api.ErrShape)
	p.Threads = nil
	accepted(t, p, api.OK)
}

func accepted(t *testing.T, p api.Program, want api.Errno) {
	t.Helper()
	if e := shape.Program(p); e != want {
		t.Errorf("%d, not %d", e, want)
	}
}
