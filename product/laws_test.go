package product_test

import (
	"slices"
	"testing"

	"parole/api"
	"parole/machine"
	"parole/product"
)

// states yields the states of n programs under random schedules, from the first ones on. Every third maker is calm, wild, or tangled.
func states(t *testing.T, seed int64, n int) func(func(setting) bool) {
	return func(yield func(setting) bool) {
		for i := range n {
			m := newMaker(seed + int64(i))
			m.wild, m.tangled = i%3 == 1, i%3 == 2
			p := m.program()
			x := start(t, p, m.inputs(p.D))
			for range 40 {
				if !yield(x) {
					return
				}
				l := product.Ready(x.p, x.in, x.s)
				if len(l) == 0 {
					break
				}
				x = x.step(pick(m, l...))
			}
		}
	}
}

// P9.2: in the log, each VLock of a lock is followed by the VUnlock of the same thread, ahead of any other one.
func TestLawOfLocks(t *testing.T) {
	contended := 0
	for x := range states(t, 1000, 300) {
		held := make([]int, x.p.D.Locks)
		for n := range held {
			held[n] = -1
		}
		for _, l := range x.s.Log {
			switch n := l.E.N; l.E.Kind {
			case api.VLock:
				if held[n] != -1 {
					t.Fatalf("lock %d is held by %d and %d: %+v", n, held[n], l.Thread, x.s)
				}
				held[n] = l.Thread
			case api.VUnlock:
				if held[n] != l.Thread {
					t.Fatalf("lock %d is held by %d, and given back by %d: %+v", n, held[n], l.Thread, x.s)
				}
				held[n] = -1
			}
		}
		if !slices.Equal(held, x.s.Held) {
			t.Fatalf("the locks are held by %v: %+v", held, x.s)
		}
		for thread, id := range x.p.Threads {
			next := machine.Run(x.p, id, nil, nil, x.s.Answers[thread]).Next
			if next.Kind == api.VLock && held[next.N] != -1 {
				contended++
				if has(product.Ready(x.p, x.in, x.s), thread) {
					t.Fatalf("thread %d can take lock %d: %+v", thread, next.N, x.s)
				}
			}
		}
	}
	if contended < 50 {
		t.Errorf("%d threads have waited for locks", contended)
	}
}

// P9.3: what has been received is the beginning of what has been sent, and the rest is in the queue.
func TestLawOfQueues(t *testing.T) {
	full, passed := 0, 0
	for x := range states(t, 2000, 300) {
		for n, q := range x.p.D.Queues {
			var sent, received []api.Word
			for _, l := range x.s.Log {
				switch {
				case l.E.N == n && l.E.Kind == api.VSend:
					sent = append(sent, l.E.W)
				case l.E.N == n && l.E.Kind == api.VRecv:
					received = append(received, l.E.W)
				}
				if k := len(sent) - len(received); k < 0 || k > q.Cap {
					t.Fatalf("queue %d has %d elements: %+v", n, k, x.s)
				}
			}
			if !slices.Equal(slices.Concat(received, x.s.Queues[n]), sent) {
				t.Fatalf("queue %d gets %v, and gives %v: %+v", n, sent, received, x.s)
			}
			passed += len(received)
			if len(x.s.Queues[n]) == q.Cap {
				full++
			}
		}
	}
	if full < 50 || passed < 50 {
		t.Errorf("%d full queues, %d elements received", full, passed)
	}
}

// P9.4: each VRead has the word of the last VWrite ahead of it, or the one of the beginning.
func TestLawOfGlobals(t *testing.T) {
	read := 0
	for x := range states(t, 3000, 300) {
		now := slices.Clone(x.first().Globals)
		written := make([]bool, len(now))
		for _, l := range x.s.Log {
			n := l.E.N
			switch l.E.Kind {
			case api.VWrite:
				now[n], written[n] = l.E.W, true
			case api.VRead:
				if l.E.W != now[n] {
					t.Fatalf("%v is read from global %d, not %v: %+v", l.E.W, n, now[n], x.s)
				}
				if written[n] {
					read++
				}
			}
		}
		if !slices.Equal(now, x.s.Globals) {
			t.Fatalf("the globals are %v, not %v: %+v", x.s.Globals, now, x.s)
		}
	}
	if read < 50 {
		t.Errorf("%d words read that were written", read)
	}
}

// first returns the state at first.
func (x setting) first() api.State {
	s, _ := product.New(x.p, x.in)
	return s
}

func isIn(x api.Word, r api.Range) bool {
	return r.Lo <= x.V && x.V <= r.Hi && x.Mask&^r.Mask == 0
}

// P9.5: globals, elements of queues and inputs are in their ranges, as long as nothing has failed.
func TestLawOfRanges(t *testing.T) {
	for x := range states(t, 4000, 300) {
		if x.s.Fail.Kind != 0 {
			continue
		}
		for n, v := range x.s.Globals {
			if !isIn(v, x.p.D.Globals[n]) {
				t.Fatalf("global %d is %v: %+v", n, v, x.p.D)
			}
		}
		for n, q := range x.s.Queues {
			for _, v := range q {
				if !isIn(v, x.p.D.Queues[n].R) {
					t.Fatalf("queue %d has %v: %+v", n, v, x.p.D)
				}
			}
		}
		for _, l := range x.s.Log {
			if r := x.p.D.Classes; l.E.Kind == api.VSource && (!isIn(l.E.W, r[l.E.N]) || l.E.W.Mask != r[l.E.N].Mask) {
				t.Fatalf("an input of class %d is %v: %+v", l.E.N, l.E.W, x.p.D)
			}
		}
	}
}

// events returns the events of a thread in the log.
func events(s api.State, thread int) []api.Event { return model{log: s.Log}.of(thread) }

// P9.6: what a thread has done is its run with its answers.
func TestLawOfAnswers(t *testing.T) {
	for x := range states(t, 5000, 300) {
		for thread, id := range x.p.Threads {
			r := machine.Run(x.p, id, nil, nil, x.s.Answers[thread])
			if l := events(x.s, thread); !same(l, r.Ev) || r.Used != len(x.s.Answers[thread]) {
				t.Fatalf("thread %d has done\n%+v, but its run is\n%+v", thread, l, r)
			}
			for _, a := range x.s.Answers[thread] {
				if a.Throw != 0 {
					t.Fatalf("an answer has an exception: %+v", x.s)
				}
			}
		}
	}
}

// P9.6: threads that share nothing do the same in any order; a failure only stops them earlier.
func TestLawOfThreads(t *testing.T) {
	compared := 0
	for i := range 300 {
		m := newMaker(6000 + int64(i))
		m.apart, m.wild = true, i%2 == 1
		p := m.program()
		in := m.inputs(p.D)
		needRight(t, p)
		a, _ := product.Play(p, in, m.schedule(3000))
		b, _ := product.Play(p, in, m.schedule(3000))
		for thread := range p.Threads {
			k, l := events(a, thread), events(b, thread)
			n := min(len(k), len(l))
			if !same(k[:n], l[:n]) {
				t.Fatalf("thread %d does\n%+v, or\n%+v", thread, k, l)
			}
		}
		if a.Fail.Kind != 0 || b.Fail.Kind != 0 {
			continue
		}
		if len(product.Ready(p, in, a)) > 0 || len(product.Ready(p, in, b)) > 0 {
			continue
		}
		if !same(a.Log, b.Log) {
			compared++
		}
		a.Log, b.Log = nil, nil
		if !same(a, b) {
			t.Fatalf("the end is\n%+v, or\n%+v", a, b)
		}
	}
	if compared < 100 {
		t.Errorf("%d programs have been executed in two orders", compared)
	}
}

// ends counts in how many orders the threads come to an end, and fail; each of these ends is given to check.
func ends(x setting, check func(setting)) (well, failed int) {
	l := product.Ready(x.p, x.in, x.s)
	for _, thread := range l {
		a, b := ends(x.step(thread), check)
		well, failed = well+a, failed+b
	}
	switch {
	case len(l) > 0:
	case x.s.Fail.Kind != 0:
		check(x)
		failed++
	default:
		check(x)
		well++
	}
	return well, failed
}

// P9.7: two threads with two locks in opposite orders wait in a circle in some orders of their steps; in all others, they end.
func TestLawOfCircles(t *testing.T) {
	m := newMaker(7)
	idle := func() []api.Stmt { return some(m.from(0, 2), func() api.Stmt { return use(m.from(0, 2)) }) }
	body := func(a, b int) ([]api.Stmt, int) {
		l := append(idle(), lock(a))
		l = append(l, idle()...)
		second := len(l)
		return slices.Concat(l, list(lock(b)), idle(), list(unlock(b), unlock(a))), second
	}
	for range 30 {
		locks := m.r.Perm(4)
		k, second := body(locks[0], locks[1])
		l, _ := body(locks[1], locks[0])
		well, failed := ends(begin(t, k, l), func(x setting) {
			if x.s.Fail.Kind == 0 {
				x.works().ended(true, true)
				return
			}
			x.fails(100+second, api.KOrder, 0).ended(false, false)
			if x.s.Held[locks[0]] != 0 || x.s.Held[locks[1]] != 1 {
				t.Errorf("the locks are held by %v", x.s.Held)
			}
		})
		if well == 0 || failed == 0 {
			t.Errorf("%d orders end well, and %d with a failure", well, failed)
		}
		well, failed = ends(begin(t, k, k), func(x setting) { x.works().ended(true, true) })
		if well == 0 || failed != 0 {
			t.Errorf("with the same order of the locks, %d end well, and %d with a failure", well, failed)
		}
	}
}

// P9.8: programs whose statements cannot fail, and in which the order of locks makes no circles, never fail.
func TestLawOfCalm(t *testing.T) {
	ended := 0
	for i := range 400 {
		m := newMaker(8000 + int64(i))
		p := m.program()
		in := m.inputs(p.D)
		needRight(t, p)
		for range 5 {
			s, e := product.Play(p, in, m.schedule(300))
			if e != api.OK || s.Fail != (api.Failure{}) || s.By != 0 {
				t.Fatalf("%d, %+v\nin the program\n%+v", e, s, p)
			}
			for _, x := range product.Ended(p, s) {
				if x {
					ended++
				}
			}
		}
	}
	if ended < 500 {
		t.Errorf("%d threads have ended", ended)
	}
}
