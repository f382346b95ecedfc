package product_test

import (
	"testing"

	"parole/api"
	"parole/product"
)

// P9.1: of the threads that fail at first, it is the first one; Log has the events of all of them.
func TestFailuresAtFirst(t *testing.T) {
	wrong, out := list(assert(never())), list(throw(5))
	begin(t, wrong).fails(100, api.KAssert, 0)
	begin(t, out).fails(199, api.KThrow, 0)
	begin(t, nil, wrong).fails(200, api.KAssert, 1).ended(true, false)
	begin(t, list(use(0)), nil, out, wrong).fails(399, api.KThrow, 2).ended(false, true, false, false)
	begin(t, wrong, out).fails(100, api.KAssert, 0)
	begin(t, out, wrong).fails(199, api.KThrow, 0)
	p := with(threads(wrong, list(call(0, 3)), list(call(0, 3))), list(back(num(1))))
	p.Threads[2] = 2
	p.Defs[2].Body = nil
	x := start(t, p, noInputs()).fails(100, api.KAssert, 0)
	if len(x.s.Log) != 4 || x.s.Log[1].Thread != 1 || x.s.Log[2].Thread != 2 {
		t.Errorf("Log: %+v", x.s.Log)
	}
}

// P9.1: after an operation, its thread can fail, at any of its statements, or at its end.
func TestFailuresOfOperations(t *testing.T) {
	for i, c := range []struct {
		l          []api.Stmt
		site, kind int
	}{
		{list(use(0), assert(never())), 101, api.KAssert},
		{list(use(0), output(api.SWrite, 0, num(6))), 101, api.KRange},
		{list(use(0), output(api.SSend, 0, num(-1))), 101, api.KRange},
		{list(use(0), unlock(0)), 101, api.KUnlock},
		{list(use(0), throw(1)), 199, api.KThrow},
		{list(lock(0)), 199, api.KHeld},
		{list(lock(0), lock(0)), 101, api.KRelock},
		{list(lock(0), throw(1)), 199, api.KHeld},
		{list(use(0), choose(always(), list(throw(7)), nil)), 199, api.KThrow},
		{list(input(api.SRead, 0, 0), choose(compare(api.CEq, variable(0), num(0)), list(assert(never())), nil)), 102, api.KAssert},
		{list(use(0), call(0, 3)), 399, api.KLeak},
		{list(use(0), call(0, 4)), 199, api.KThrow},
		{list(use(0), try(1, list(call(0, 4)), list(assert(compare(api.CEq, variable(1), num(8)))))), 0, 0},
	} {
		p := with(with(threads(c.l, list(use(1))), list(api.Stmt{Op: api.SNew})), list(throw(8)))
		p.Defs[2].Refs = 1
		p.Threads = []int{2, 1, 2}
		x := start(t, p, noInputs()).works().ready(0, 1, 2).step(1)
		if c.kind == 0 {
			x.works().ready(0, 2).ended(false, true, false)
		} else {
			x.fails(c.site, c.kind, 1).ended(false, false, false)
		}
		if t.Failed() {
			t.Fatalf("case %d", i)
		}
	}
	p := threads(list(input(api.SSource, 0, 0), output(api.SSink, 1, variable(0))), list(use(0)))
	start(t, p, [][]int{{4}, nil}).step(0).fails(101, api.KTaint, 0)
	p.Defs[1].Budget, p.Defs[1].Body = 1, append(p.Defs[1].Body, api.Stmt{Site: 201, Op: api.SSet, X: num(1)})
	start(t, p, [][]int{{4}, nil}).works().step(1).fails(299, api.KCost, 1)
}

// P9.1: the events ahead of a failure are in Log, too, and the operation has been done.
func TestLogOfFailure(t *testing.T) {
	p := with(threads(list(output(api.SWrite, 0, num(4)), call(0, 2), throw(3))), list(back(num(1))))
	p.Defs[0].Vars = 3
	x := start(t, p, noInputs())
	want := done(x.s, 0, w(0, 0), event(api.VWrite, 100, 0, w(4, 0)))
	want.Globals[0] = w(4, 0)
	want.Log = append(want.Log, api.Logged{E: event(api.VCall, 101, 2, w(0, 0))}, api.Logged{E: api.Event{Kind: api.VReturn, Def: 2, Site: 101, N: 2, W: w(1, 0)}})
	want.Fail = api.Failure{Site: 199, Kind: api.KThrow}
	x.step(0).is(want).fails(199, api.KThrow, 0)
}

// both takes two locks.
func both(a, b int) []api.Stmt { return list(lock(a), lock(b), unlock(b), unlock(a)) }

// P9.1, P9.7: circles of two, three and four threads, whoever closes them; By is the least thread of the circle.
func TestCircles(t *testing.T) {
	begin(t, both(0, 1), both(1, 0)).step(1, 0).fails(101, api.KOrder, 0)
	three := begin(t, both(0, 1), both(1, 2), both(2, 0))
	for _, order := range [][]int{{0, 1, 2}, {0, 2, 1}, {1, 0, 2}, {1, 2, 0}, {2, 0, 1}, {2, 1, 0}} {
		three.step(order[:2]...).works()
		three.step(order...).fails(101, api.KOrder, 0)
	}
	begin(t, both(0, 1), both(3, 0), both(1, 2), both(2, 3)).step(1, 0, 3, 2).fails(101, api.KOrder, 0)
	begin(t, list(use(0)), both(2, 3), list(use(0)), both(3, 2)).step(1, 3).fails(201, api.KOrder, 1)
	begin(t, list(use(0)), list(use(0)), both(2, 3), both(3, 2)).step(3, 2).fails(301, api.KOrder, 2)
}

// P9.1: a thread that waits for one in a circle is not in it.
func TestWayToCircle(t *testing.T) {
	one := list(lock(0), unlock(0))
	begin(t, one, both(0, 1), both(1, 0)).step(1, 2).fails(201, api.KOrder, 1)
	begin(t, both(2, 0), one, both(0, 1), both(1, 0)).step(0, 2, 3).fails(301, api.KOrder, 2)
	begin(t, list(lock(2), unlock(2)), both(2, 0), both(0, 1), both(1, 0)).step(1, 2, 3).fails(301, api.KOrder, 2) // the way has two steps
	begin(t, both(0, 1), one, both(1, 0)).step(2, 0).fails(101, api.KOrder, 0)
}

// P9.1: threads that wait for each other otherwise do not fail.
func TestNoCircle(t *testing.T) {
	get, put := input(api.SRecv, 0, 0), output(api.SSend, 0, num(1))
	begin(t, list(lock(0), get, unlock(0)), list(lock(0), put, unlock(0))).step(0).works().ready()
	begin(t, list(lock(0), get, unlock(0)), list(lock(1), lock(0), unlock(0), unlock(1)), list(lock(1), unlock(1))).step(0, 1).works().ready()
	begin(t, list(get, put), list(get, put)).works().ready()
	begin(t, both(0, 1), both(0, 1), both(0, 1)).step(0).works().ready(0).step(0, 0).works().ready(0).step(0).ready(1, 2)
	begin(t, both(1, 2), both(2, 3), both(3, 0), list(lock(0), get, unlock(0))).step(3, 2, 1, 0).works().ready() // a way of three steps
	begin(t, list(get), both(0, 1), both(1, 0), list(put)).step(1, 1).works().ready(1, 3)
}

// P9.1, P9.7: locks of activations that call others are those of the thread.
func TestCircleOfCalls(t *testing.T) {
	p := with(threads(list(lock(0), call(-1, 4), unlock(0)), list(lock(1), call(-1, 3), unlock(1))), list(lock(0), unlock(0)))
	p = with(p, list(lock(1), unlock(1)))
	x := start(t, p, noInputs()).step(0).works().step(1).fails(400, api.KOrder, 0)
	if len(x.s.Log) != 4 {
		t.Errorf("Log: %+v", x.s.Log)
	}
}

// P9.1: the failure of the thread that does the operation comes ahead of a circle, of which it cannot be a part.
func TestFailureNearCircle(t *testing.T) {
	x := begin(t, both(0, 1), list(lock(1), assert(never()), unlock(1)))
	x.step(0).works().step(1).fails(201, api.KAssert, 1)
	s, e := product.Play(x.p, x.in, []int{0, 1, 0, 0})
	if e != api.OK || s.Fail != (api.Failure{Site: 201, Kind: api.KAssert}) || s.By != 1 || !same(s.Held, []int{0, 1, -1, -1}) {
		t.Errorf("Play: %d, %+v", e, s)
	}
}
