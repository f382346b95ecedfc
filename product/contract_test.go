package product_test

import (
	"math"
	"testing"

	"parole/api"
	"parole/product"
	"parole/shape"
)

// P9.1, I1: a state at first.
func TestFirstState(t *testing.T) {
	p := threads(list(input(api.SRead, 0, 0)), nil)
	p.D.Globals = []api.Range{{Lo: 0, Hi: 3}, {Lo: -3, Hi: 0}, {Lo: 1, Hi: 5, Mask: 7}, {Lo: -5, Hi: -1, Mask: 7}, {Lo: api.MinInt, Hi: api.MaxInt}, {Lo: api.MaxInt, Hi: api.MaxInt}, {Lo: api.MinInt, Hi: -1}, {Lo: -9, Hi: 9}}
	none := [][]api.Answer{nil, nil}
	start(t, p, noInputs()).works().is(api.State{
		Answers: none, Held: []int{-1, -1, -1, -1}, Queues: [][]api.Word{nil, nil}, Fed: []int{0, 0},
		Globals: words(w(0, 0), w(0, 0), w(1, 0), w(-5, 0), w(0, 0), w(api.MaxInt, 0), w(api.MinInt, 0), w(0, 0)),
	})
	p.D.Locks = 8
	p.D.Globals, p.D.Queues, p.D.Classes = p.D.Globals[:1], nil, nil
	start(t, p, nil).works().is(api.State{Answers: none, Held: []int{-1, -1, -1, -1, -1, -1, -1, -1}, Globals: words(w(0, 0))})
	p.D.Locks = 0
	start(t, p, nil).works().is(api.State{Answers: none, Globals: words(w(0, 0))})
}

// P9.1: a program without threads does nothing.
func TestNoThreads(t *testing.T) {
	x := start(t, threads(), [][]int{{1, 2, 3}, nil}).works().ready().ended()
	for _, n := range []int{-1, 0, 1} {
		x.refuses(n, api.ErrArg)
	}
	s, e := product.Play(x.p, x.in, []int{0, 1, 2})
	if e != api.OK || !same(s, x.s) {
		t.Errorf("Play: %d, %+v", e, s)
	}
}

// P9.1: at first, Log has the events of all threads, in order; afterwards the new ones of the thread that does something.
func TestLog(t *testing.T) {
	get := list(call(0, 3, num(4)), input(api.SRead, 1, 1), call(-1, 3, num(5)))
	p := with(threads(get, append(get, output(api.SWrite, 0, num(1)))), list(back(add(variable(0), num(1)))), api.Range{Lo: 0, Hi: 9})
	events := func(thread, site, v int) []api.Logged {
		return []api.Logged{
			{Thread: thread, E: api.Event{Kind: api.VCall, Def: thread + 1, Site: site, N: 3, Args: words(w(v, 0))}},
			{Thread: thread, E: api.Event{Kind: api.VReturn, Def: 3, Site: site, N: 3, W: w(v+1, 0)}},
		}
	}
	x := start(t, p, noInputs()).ready(0, 1)
	want := api.State{
		Answers: [][]api.Answer{nil, nil}, Held: []int{-1, -1, -1, -1}, Queues: [][]api.Word{nil, nil}, Globals: words(w(0, 0), w(2, 0)), Fed: []int{0, 0},
		Log: append(events(0, 100, 4), events(1, 200, 4)...),
	}
	x.is(want)
	want = done(want, 1, w(2, 0), event(api.VRead, 201, 1, w(2, 0)))
	want.Log = append(want.Log, events(1, 202, 5)...)
	x = x.step(1).ready(0, 1).is(want)
	want = done(want, 0, w(2, 0), event(api.VRead, 101, 1, w(2, 0)))
	want.Log = append(want.Log, events(0, 102, 5)...)
	x = x.step(0).ready(1).ended(true, false).is(want)
	want = done(want, 1, w(0, 0), event(api.VWrite, 203, 0, w(1, 0)))
	want.Globals[0] = w(1, 0)
	x.step(1).works().ready().ended(true, true).is(want)
}

// P9.1: inputs are right if there are lists for all classes, not too long, and in the ranges.
func TestInputs(t *testing.T) {
	p := threads(list(input(api.SSource, 0, 0)))
	p.D.Classes = append(p.D.Classes, api.Range{Lo: api.MinInt, Hi: api.MaxInt})
	needRight(t, p)
	for i, in := range [][][]int{
		{nil, nil, nil}, {{}, {}, {}}, {{0, 9}, {-2, 2}, {api.MinInt, api.MaxInt}}, {make([]int, 1000), make([]int, 1000), make([]int, 1000)},
	} {
		s, e := product.New(p, in)
		if l := product.Ready(p, in, s); e != api.OK || len(s.Answers) != 1 || !same(s.Fed, []int{0, 0, 0}) || len(l) != min(len(in[0]), 1) {
			t.Errorf("right inputs, case %d: %d, %+v", i, e, s)
		}
	}
	for i, in := range [][][]int{
		nil, {}, {nil}, {nil, nil}, {nil, nil, nil, nil}, {{1}, {1}, {1}, {1}},
		{{-1}, nil, nil}, {{10}, nil, nil}, {{0, 5, 9, 10}, nil, nil}, {nil, {-3}, nil}, {nil, {3}, nil}, {nil, {3, 0}, nil},
		{nil, nil, {api.MinInt - 1}}, {nil, nil, {api.MaxInt + 1}}, {nil, nil, {math.MinInt}}, {nil, nil, {math.MaxInt}},
		{make([]int, 1001), nil, nil}, {nil, nil, make([]int, 1001)}, {nil, nil, make([]int, 100000)},
	} {
		if s, e := product.New(p, in); e != api.ErrArg || !same(s, api.State{}) {
			t.Errorf("New with wrong inputs, case %d: %d, %+v", i, e, s)
		}
		if s, e := product.Play(p, in, []int{0}); e != api.ErrArg || !same(s, api.State{}) {
			t.Errorf("Play with wrong inputs, case %d: %d, %+v", i, e, s)
		}
	}
	p.D.Classes = nil
	p.Threads = nil
	p.Defs[0].Body = nil
	needRight(t, p)
	if _, e := product.New(p, nil); e != api.OK {
		t.Errorf("no inputs: %d", e)
	}
	if _, e := product.New(p, [][]int{{}}); e != api.ErrArg {
		t.Errorf("inputs of no class: %d", e)
	}
}

// P9.1, I2: the errors of Step come in their order, and leave the state as it is.
func TestErrors(t *testing.T) {
	wrong := []int{-1, 2, 3, 100, -1 << 62, 1 << 62, math.MinInt, math.MaxInt}
	x := begin(t, list(input(api.SRecv, 0, 0)), list(use(1), output(api.SWrite, 0, num(6)))).ready(1)
	for _, n := range wrong {
		x.refuses(n, api.ErrArg)
	}
	x = x.step(1).fails(201, api.KRange, 1)
	for _, n := range append(wrong, 0, 1) {
		x.refuses(n, api.ErrEnd)
	}
	y := begin(t, list(assert(never())))
	y.refuses(0, api.ErrEnd)
	y.refuses(9, api.ErrEnd)
}

// P9.1, I3: numbers of a schedule count the threads that are ready.
func TestPlay(t *testing.T) {
	two := list(use(0), use(1))
	x := begin(t, two, list(input(api.SRecv, 0, 0)), two, two)
	for _, c := range []struct{ schedule, steps []int }{
		{nil, nil},
		{[]int{0}, []int{0}},
		{[]int{1}, []int{2}},
		{[]int{2}, []int{3}},
		{[]int{3}, []int{0}},
		{[]int{-1}, []int{3}},
		{[]int{-3}, []int{0}},
		{[]int{-4}, []int{3}},
		{[]int{3 << 60}, []int{0}},
		{[]int{math.MaxInt}, []int{2}}, // 2^63 - 1 is 1 more than a multiple of 3
		{[]int{math.MinInt}, []int{2}}, // and -2^63 is 1 more, too
		{[]int{0, 0, 0}, []int{0, 0, 2}},
		{[]int{2, 2, 2, 1}, []int{3, 3, 0, 2}},
		{[]int{-1, -1, -1, -1, -1, -1}, []int{3, 3, 2, 2, 0, 0}},
		{[]int{0, 0, 0, 0, 5, 5}, []int{0, 0, 2, 2, 3, 3}},
		{[]int{0, 0, 0, 0, 0, 0, 0, 1, -7}, []int{0, 0, 2, 2, 3, 3}}, // no thread is ready behind the sixth one
	} {
		s, e := product.Play(x.p, x.in, c.schedule)
		if e != api.OK {
			t.Errorf("schedule %v: error %d", c.schedule, e)
		}
		setting{t, x.p, x.in, s}.is(x.step(c.steps...).s)
	}
}

// P9.1, I3: nothing is done behind a failure.
func TestPlayToFailure(t *testing.T) {
	x := begin(t, list(use(0), assert(never())), list(use(1), use(2)))
	for _, c := range []struct{ schedule, steps []int }{
		{[]int{0, 0, 0, 0}, []int{0}}, {[]int{1, 0, 0, 0}, []int{1, 0}}, {[]int{1, 1, 0, 0}, []int{1, 1, 0}},
	} {
		s, e := product.Play(x.p, x.in, c.schedule)
		if e != api.OK {
			t.Errorf("schedule %v: error %d", c.schedule, e)
		}
		setting{t, x.p, x.in, s}.is(x.step(c.steps...).s).fails(101, api.KAssert, 0)
	}
	s, e := product.Play(threads(list(throw(1))), noInputs(), []int{0, 1, 2})
	if e != api.OK || s.Fail != (api.Failure{Site: 199, Kind: api.KThrow}) {
		t.Errorf("a failure at once: %d, %+v", e, s)
	}
}

// P9.1, I4: a thread has ended only if its run ends with HEnd.
func TestEnded(t *testing.T) {
	begin(t, nil, list(back(num(3))), list(use(1)), list(throw(3))).ended(true, true, false, false)
	begin(t, list(assert(never())), list(input(api.SRecv, 0, 0)), list(try(0, list(throw(3)), nil))).ended(false, false, true)
	begin(t, list(use(1)), list(use(1))).ended(false, false).step(1).ended(false, true).step(0).ended(true, true)
	begin(t, list(call(-1, 2)), nil).ended(true, true)
}

// P9.1: a thread that has used all that a run may use does nothing more, but has not failed either.
func TestFuel(t *testing.T) {
	spin := set(0, num(1))
	for range 4 {
		spin = loop(16, always(), spin)
	}
	x := begin(t, list(lock(1), spin), list(lock(1), unlock(1)), list(lock(0), unlock(0))).ready(0, 1, 2)
	x = x.step(0).works().ready(2).ended(false, false, false)
	x.step(2, 2).works().ready().ended(false, false, true)
}

// P9.1: two threads can have the same definition.
func TestSameDefinition(t *testing.T) {
	p := threads(list(input(api.SRead, 0, 0), output(api.SWrite, 0, add(variable(0), num(1)))))
	p.Threads = []int{1, 1}
	x := start(t, p, noInputs()).ready(0, 1)
	if s := x.step(0, 0, 1, 1).ended(true, true).s; s.Globals[0] != w(2, 0) {
		t.Errorf("one after the other: %+v", s)
	}
	if s := x.step(0, 1, 1, 0).ended(true, true).s; s.Globals[0] != w(1, 0) {
		t.Errorf("together: %+v", s)
	}
	p.Defs[0].Body[0] = api.Stmt{Site: 100, Op: api.SLock}
	p.Defs[0].Body[1] = api.Stmt{Site: 101, Op: api.SUnlock}
	x = start(t, p, noInputs()).step(1).works().ready(1)
	x.step(1, 0, 0).works().ended(true, true)
}

// P9.1: the threads of a program need not be all definitions, nor in their order.
func TestOrderOfThreads(t *testing.T) {
	p := threads(list(use(0)), list(use(1)), list(use(2)))
	p.Threads = []int{3, 1}
	x := start(t, p, noInputs()).ready(0, 1)
	want := done(x.s, 0, w(0, 0), event(api.VUse, 300, 2, w(0, 0)))
	x = x.step(0).is(want).ended(true, false)
	x.step(1).is(done(want, 1, w(0, 0), event(api.VUse, 100, 0, w(0, 0)))).ended(true, true)
}

// P9.1: a call of a definition that is not open waits for good.
func TestClosed(t *testing.T) {
	p := with(threads(list(use(1), call(0, 3), use(2)), list(use(0))), list(back(num(3))))
	q := closed(p, 3)
	start(t, q, noInputs()).ready(0, 1).step(0).ready(1).step(1).works().ready().ended(false, true)
	start(t, p, noInputs()).step(0, 0).ended(true, false)
	if _, open := shape.Find(q, 3); open {
		t.Error("the definition is open")
	}
}

// The example of the chapter.
func TestExample(t *testing.T) {
	x := begin(t, list(lock(0), lock(1), unlock(1), unlock(0)), list(lock(1), lock(0), unlock(0), unlock(1))).ready(0, 1)
	want := done(x.s, 0, w(0, 0), event(api.VLock, 100, 0, w(0, 0)))
	want.Held = []int{0, -1, -1, -1}
	x = x.step(0).works().ready(0, 1).is(want)
	want = done(want, 1, w(0, 0), event(api.VLock, 200, 1, w(0, 0)))
	want.Held = []int{0, 1, -1, -1}
	want.Fail = api.Failure{Site: 101, Kind: api.KOrder}
	x.step(1).fails(101, api.KOrder, 0).ended(false, false).is(want)
}
