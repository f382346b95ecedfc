package product_test

import (
	"testing"

	"parole/api"
	"parole/product"
)

// P9.1, P9.4: what is read is the global, with its classes; what is written takes its place.
func TestGlobals(t *testing.T) {
	get, put := input(api.SRead, 0, 1), output(api.SWrite, 1, variable(0))
	p := threads(list(get, get, put), list(input(api.SSource, 0, 1), set(0, expr(api.EMax, variable(0), num(7))), put, output(api.SWrite, 0, num(-5))))
	x := start(t, p, [][]int{nil, {1}}).ready(0, 1)
	want := done(x.s, 0, w(2, 0), event(api.VRead, 100, 1, w(2, 0)))
	x = x.step(0).is(want)
	want = done(want, 1, w(1, 6), event(api.VSource, 200, 1, w(1, 6)))
	want.Fed[1] = 1
	x = x.step(1).is(want)
	want = done(want, 1, w(0, 0), event(api.VWrite, 202, 1, w(7, 6)))
	want.Globals[1] = w(7, 6)
	x = x.step(1).is(want).ready(0, 1)
	want = done(want, 1, w(0, 0), event(api.VWrite, 203, 0, w(-5, 0)))
	want.Globals[0] = w(-5, 0)
	x = x.step(1).is(want).ready(0)
	want = done(want, 0, w(7, 6), event(api.VRead, 101, 1, w(7, 6)))
	x = x.step(0).is(want)
	want = done(want, 0, w(0, 0), event(api.VWrite, 102, 1, w(7, 6)))
	x.step(0).is(want).works().ready().ended(true, true)
}

// P9.1: inputs come in their order, with the classes of their class, until none is left; each class has its own.
func TestSources(t *testing.T) {
	from := func(n int) api.Stmt { return input(api.SSource, 0, n) }
	p := threads(list(from(0), from(1), from(0)), list(from(0), from(1)))
	x := start(t, p, [][]int{{4, 9}, {-2}}).ready(0, 1)
	want := done(x.s, 1, w(4, 1), event(api.VSource, 200, 0, w(4, 1)))
	want.Fed = []int{1, 0}
	x = x.step(1).is(want).ready(0, 1)
	want = done(want, 0, w(9, 1), event(api.VSource, 100, 0, w(9, 1)))
	want.Fed = []int{2, 0}
	x = x.step(0).is(want).ready(0, 1)
	want = done(want, 0, w(-2, 6), event(api.VSource, 101, 1, w(-2, 6)))
	want.Fed = []int{2, 1}
	x.step(0).is(want).ready().works().ended(false, false)
	start(t, p, [][]int{nil, {1, 1}}).ready().works()
	start(t, p, [][]int{{1}, nil}).ready(0, 1).step(1).ready()
}

// P9.1: as many inputs as there may be.
func TestManyInputs(t *testing.T) {
	from := loop(16, always(), loop(16, always(), loop(4, always(), input(api.SSource, 0, 0))))
	in := [][]int{make([]int, 1000), {2}}
	in[0][999] = 9
	x := start(t, threads(list(from)), in)
	x = x.step(make([]int, 999)...).ready(0)
	x = x.step(0).ready().works()
	if x.s.Fed[0] != 1000 || x.s.Answers[0][999].W != w(9, 1) || x.s.Answers[0][998].W != w(0, 1) {
		t.Errorf("%d inputs, the last answers are %v", x.s.Fed[0], x.s.Answers[0][998:])
	}
}

// P9.1: sinks and parts change nothing but the log.
func TestSinksAndParts(t *testing.T) {
	x := begin(t, list(input(api.SRead, 0, 1), output(api.SSink, 0, variable(0)), use(2), output(api.SSink, 1, num(1<<30)))).step(0).ready(0)
	want := done(x.s, 0, w(0, 0), event(api.VSink, 101, 0, w(2, 0)))
	x = x.step(0).is(want).ready(0)
	want = done(want, 0, w(0, 0), event(api.VUse, 102, 2, w(0, 0)))
	x = x.step(0).is(want).ready(0)
	want = done(want, 0, w(0, 0), event(api.VSink, 103, 1, w(1<<30, 0)))
	x.step(0).is(want).ready().works().ended(true)
}

// P9.1: each thread loads its parts itself.
func TestPartsOfThreads(t *testing.T) {
	p := threads(list(use(1), call(-1, 3), use(0)), list(use(0), call(-1, 3)), nil)
	p.Threads = p.Threads[:2]
	p.Heads[2].Part, p.Defs[2].Part = 1, 1
	x := start(t, p, noInputs()).step(0).works().ready(0, 1)
	x.step(1).fails(201, api.KPart, 1)
	x.step(0).works().ready(1)
}

// P9.1, P9.2: a lock is held from its VLock to its VUnlock, and no other thread gets it.
func TestLocks(t *testing.T) {
	take := list(lock(3), use(0), unlock(3))
	x := begin(t, take, take, list(lock(2), unlock(2))).ready(0, 1, 2)
	want := done(x.s, 1, w(0, 0), event(api.VLock, 200, 3, w(0, 0)))
	want.Held = []int{-1, -1, -1, 1}
	x = x.step(1).is(want).ready(1, 2)
	want = done(want, 2, w(0, 0), event(api.VLock, 300, 2, w(0, 0)))
	want.Held = []int{-1, -1, 2, 1}
	x = x.step(2).is(want).ready(1, 2)
	want = done(want, 1, w(0, 0), event(api.VUse, 201, 0, w(0, 0)))
	x = x.step(1).is(want).ready(1, 2)
	want = done(want, 1, w(0, 0), event(api.VUnlock, 202, 3, w(0, 0)))
	want.Held = []int{-1, -1, 2, -1}
	x = x.step(1).is(want).ready(0, 2)
	want = done(want, 2, w(0, 0), event(api.VUnlock, 301, 2, w(0, 0)))
	want.Held = []int{-1, -1, -1, -1}
	x = x.step(2).is(want).ready(0)
	want = done(want, 0, w(0, 0), event(api.VLock, 100, 3, w(0, 0)))
	want.Held[3] = 0
	x = x.step(0).is(want).ready(0)
	x.step(0, 0).works().ready().ended(true, true, true)
}

// P9.1, P9.3: what is sent to a queue comes out at its other end; a full or empty one makes threads wait.
func TestQueues(t *testing.T) {
	p := threads(
		list(input(api.SSource, 0, 0), output(api.SSend, 1, variable(0)), output(api.SSend, 1, num(-1)), output(api.SSend, 1, num(-2))),
		list(input(api.SRecv, 0, 1), input(api.SRecv, 0, 1), input(api.SRecv, 0, 0)),
		list(output(api.SSend, 1, num(6))),
	)
	x := start(t, p, [][]int{{8}, nil}).ready(0, 2).step(0).ready(0, 2)
	want := done(x.s, 0, w(0, 0), event(api.VSend, 101, 1, w(8, 1)))
	want.Queues[1] = words(w(8, 1))
	x = x.step(0).is(want).ready(0, 1, 2)
	want = done(want, 2, w(0, 0), event(api.VSend, 300, 1, w(6, 0)))
	want.Queues[1] = words(w(8, 1), w(6, 0))
	x = x.step(2).is(want).ready(1) // it is full
	want = done(want, 1, w(8, 1), event(api.VRecv, 200, 1, w(8, 1)))
	want.Queues[1] = words(w(6, 0))
	x = x.step(1).is(want).ready(0, 1)
	want = done(want, 0, w(0, 0), event(api.VSend, 102, 1, w(-1, 0)))
	want.Queues[1] = words(w(6, 0), w(-1, 0))
	x = x.step(0).is(want).ready(1)
	want = done(want, 1, w(6, 0), event(api.VRecv, 201, 1, w(6, 0)))
	want.Queues[1] = words(w(-1, 0))
	x = x.step(1).is(want).ready(0) // the other queue is empty
	x.step(0).ready().works().ended(true, false, true)
}

// P9.3: queues hold as many elements as their Cap.
func TestCaps(t *testing.T) {
	for _, n := range []int{1, 2, 3, 16} {
		p := threads(list(loop(16, always(), output(api.SSend, 0, num(3))), output(api.SSend, 0, num(4))), list(input(api.SRecv, 0, 0)))
		p.D.Queues[0].Cap = n
		x := start(t, p, noInputs()).ready(0)
		x = x.step(make([]int, n)...).ready(1)
		if len(x.s.Queues[0]) != n {
			t.Errorf("%d elements are in a queue of %d", len(x.s.Queues[0]), n)
		}
		x.step(1, 0).ready().works()
	}
}

// P9.1, P9.3: a thread can send to itself.
func TestSelf(t *testing.T) {
	l := list(output(api.SSend, 1, num(3)), output(api.SSend, 1, num(4)), input(api.SRecv, 0, 1), input(api.SRecv, 1, 1), output(api.SWrite, 0, expr(api.ESub, variable(0), variable(1))))
	x := begin(t, l).step(0, 0, 0, 0, 0).works().ended(true)
	if x.s.Globals[0] != w(-1, 0) || len(x.s.Queues[1]) != 0 {
		t.Errorf("%+v", x.s)
	}
	begin(t, append(l[:2:2], l...)).step(0, 0).ready().works().ended(false)
}

// I5: states from which others have come stay as they are, whichever of these there are.
func TestBranches(t *testing.T) {
	from, take, give := input(api.SSource, 0, 0), input(api.SRecv, 0, 1), input(api.SRead, 0, 0)
	send := func(v int) api.Stmt { return output(api.SSend, 1, num(v)) }
	p := threads(
		list(send(1), send(2), send(3), from, take, from),
		list(from, send(4), lock(0), unlock(0), from, send(5)),
		list(send(6), output(api.SWrite, 0, num(1)), take, give, lock(0), unlock(0)),
	)
	p.D.Queues[1].Cap = 16
	var all []setting
	var kept []api.State
	var walk func(x setting, depth int)
	walk = func(x setting, depth int) {
		all, kept = append(all, x), append(kept, tidy(x.s))
		for _, thread := range product.Ready(x.p, x.in, x.s) {
			if depth > 0 {
				walk(x.step(thread), depth-1)
			}
		}
	}
	walk(start(t, p, [][]int{{1, 2, 3, 4}, nil}), 6)
	if len(all) < 500 {
		t.Errorf("%d states", len(all))
	}
	for i := range all {
		all[i].is(kept[i])
	}
}
