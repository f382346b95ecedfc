package product_test

import (
	"fmt"
	"slices"
	"testing"

	"parole/api"
	"parole/machine"
	"parole/product"
)

// A model keeps nothing but the log of what has been done, and the runs of the threads up to there: all else follows from it.
type model struct {
	p    api.Program
	in   [][]int
	log  []api.Logged
	runs []api.Run
}

// needsAnswer holds for all that is not about open definitions, as calls of others never come into the log.
func needsAnswer(e api.Event) bool { return e.Kind != api.VCall && e.Kind != api.VReturn }

func isInput(e api.Event) bool {
	return e.Kind == api.VRead || e.Kind == api.VSource || e.Kind == api.VRecv
}

// of returns the events of a thread.
func (m model) of(thread int) []api.Event {
	var l []api.Event
	for _, x := range m.log {
		if x.Thread == thread {
			l = append(l, x.E)
		}
	}
	return l
}

// about returns the events of these kinds with the number n.
func (m model) about(n int, kinds ...int) []api.Logged {
	var l []api.Logged
	for _, x := range m.log {
		if x.E.N == n && has(kinds, x.E.Kind) {
			l = append(l, x)
		}
	}
	return l
}

func (m model) answers(thread int) []api.Answer {
	var l []api.Answer
	for _, e := range m.of(thread) {
		switch {
		case isInput(e):
			l = append(l, api.Answer{W: e.W})
		case needsAnswer(e):
			l = append(l, api.Answer{})
		}
	}
	return l
}

func (m model) holder(n int) int {
	l := m.about(n, api.VLock, api.VUnlock)
	if len(l)%2 == 0 {
		return -1
	}
	return l[len(l)-1].Thread
}

func (m model) queue(n int) []api.Word {
	var l []api.Word
	for _, x := range m.about(n, api.VSend) {
		l = append(l, x.E.W)
	}
	return l[len(m.about(n, api.VRecv)):]
}

func (m model) global(n int) api.Word {
	if l := m.about(n, api.VWrite); len(l) > 0 {
		return l[len(l)-1].E.W
	}
	if r := m.p.D.Globals[n]; r.Lo > 0 || r.Hi < 0 {
		return api.Word{V: r.Lo}
	}
	return api.Word{}
}

func (m model) fed(n int) int { return len(m.about(n, api.VSource)) }

// next returns what happens if a thread does its next operation, and whether this is possible.
func (m model) next(thread int) (api.Event, bool) {
	r := m.runs[thread]
	e := r.Next
	if f, _ := m.failure(); r.How != api.HWait || f.Kind != 0 {
		return e, false
	}
	switch e.Kind {
	case api.VRead:
		e.W = m.global(e.N)
	case api.VSource:
		if m.fed(e.N) == len(m.in[e.N]) {
			return e, false
		}
		e.W = api.Word{V: m.in[e.N][m.fed(e.N)], Mask: m.p.D.Classes[e.N].Mask}
	case api.VLock:
		return e, m.holder(e.N) == -1
	case api.VSend:
		return e, len(m.queue(e.N)) < m.p.D.Queues[e.N].Cap
	case api.VRecv:
		if len(m.queue(e.N)) == 0 {
			return e, false
		}
		e.W = m.queue(e.N)[0]
	case api.VCall:
		return e, false
	}
	return e, true
}

func (m model) ready() []int {
	var l []int
	for t := range m.p.Threads {
		if _, ok := m.next(t); ok {
			l = append(l, t)
		}
	}
	return l
}

// with returns the model in which a thread has gone on to its next operation, without it.
func (m model) with(thread int) model {
	m.log, m.runs = slices.Clone(m.log), slices.Clone(m.runs)
	m.runs[thread] = machine.Run(m.p, m.p.Threads[thread], nil, nil, m.answers(thread))
	for _, e := range m.runs[thread].Ev[len(m.of(thread)):] {
		m.log = append(m.log, api.Logged{Thread: thread, E: e})
	}
	return m
}

func (m model) step(thread int) model {
	e, _ := m.next(thread)
	m.log = append(slices.Clone(m.log), api.Logged{Thread: thread, E: e})
	return m.with(thread)
}

// circle returns for each thread whether it waits for itself, over any number of others.
func (m model) circle() []bool {
	n := len(m.p.Threads)
	waits := make([][]bool, n)
	for t := range n {
		waits[t] = make([]bool, n)
		if e := m.runs[t].Next; e.Kind == api.VLock && m.holder(e.N) >= 0 {
			waits[t][m.holder(e.N)] = true
		}
	}
	for k := range n {
		for i := range n {
			for j := range n {
				waits[i][j] = waits[i][j] || waits[i][k] && waits[k][j]
			}
		}
	}
	var l []bool
	for t := range n {
		l = append(l, waits[t][t])
	}
	return l
}

func (m model) failure() (api.Failure, int) {
	for t, id := range m.p.Threads {
		switch r := m.runs[t]; r.How {
		case api.HFail:
			return r.Fail, t
		case api.HThrow:
			for _, d := range m.p.Defs {
				if d.Id == id {
					return api.Failure{Site: d.Site, Kind: api.KThrow}, t
				}
			}
		}
	}
	if t := slices.Index(m.circle(), true); t >= 0 {
		return api.Failure{Site: m.runs[t].Next.Site, Kind: api.KOrder}, t
	}
	return api.Failure{}, 0
}

func (m model) state() api.State {
	s := api.State{Log: m.log}
	for t := range m.p.Threads {
		s.Answers = append(s.Answers, m.answers(t))
	}
	for n := range m.p.D.Locks {
		s.Held = append(s.Held, m.holder(n))
	}
	for n := range m.p.D.Queues {
		s.Queues = append(s.Queues, m.queue(n))
	}
	for n := range m.p.D.Globals {
		s.Globals = append(s.Globals, m.global(n))
	}
	for n := range m.p.D.Classes {
		s.Fed = append(s.Fed, m.fed(n))
	}
	s.Fail, s.By = m.failure()
	return s
}

func firstModel(p api.Program, in [][]int) model {
	m := model{p: p, in: in, runs: make([]api.Run, len(p.Threads))}
	for t := range p.Threads {
		m = m.with(t)
	}
	return m
}

// A tally counts what programs have shown.
type tally map[string]int

// add notes what a thread waits for in vain, and what has happened at last.
func (c tally) add(m model) {
	s := m.state()
	if s.Fail.Kind != 0 {
		c[fmt.Sprint("kind ", s.Fail.Kind)]++
	}
	for t, r := range m.runs {
		c[fmt.Sprint("how ", r.How)]++
		if r.How == api.HWait && s.Fail.Kind == 0 && !has(m.ready(), t) {
			c[fmt.Sprint("stuck ", r.Next.Kind)]++
		}
	}
	for _, x := range m.log {
		c[fmt.Sprint("event ", x.E.Kind)]++
	}
}

// needs tests that all of these have been seen, some times.
func (c tally) needs(t *testing.T, names string, of ...int) {
	t.Helper()
	for _, n := range of {
		if k := c[fmt.Sprint(names, " ", n)]; k < 10 {
			t.Errorf("%s %d has been seen %d times", names, n, k)
		}
	}
}

// agrees tests all that the functions say of a state.
func (m model) agrees(x setting) {
	x.t.Helper()
	x.is(m.state()).ready(m.ready()...)
	want := api.ErrArg
	if x.s.Fail.Kind != 0 {
		want = api.ErrEnd
	}
	for _, n := range []int{-1, len(m.p.Threads)} {
		x.refuses(n, want)
	}
	var l []bool
	for _, r := range m.runs {
		l = append(l, r.How == api.HEnd)
	}
	x.ended(l...)
	if x.t.Failed() {
		x.t.Fatalf("in the program\n%+v\nwith the inputs %v", x.p, x.in)
	}
}

// plays tests that a schedule leads to the state.
func (x setting) plays(schedule []int) {
	x.t.Helper()
	s, e := product.Play(x.p, x.in, schedule)
	if e != api.OK || !same(s, x.s) {
		x.t.Fatalf("Play for %v: %d,\n%+v, not\n%+v", schedule, e, s, x.s)
	}
}

// P9.1: against the model, for calm programs and wild ones, under any schedules. I5: arguments stay as they are.
func TestModel(t *testing.T) {
	count := tally{}
	for i := range 1000 {
		m := newMaker(int64(i))
		switch i % 4 {
		case 1:
			m.tangled, m.shared = true, 2
		case 2, 3:
			m.wild = true
		}
		p := m.program()
		in, schedule := m.inputs(p.D), m.schedule(40)
		keptP, keptIn, keptSchedule := tidy(p), tidy(in), slices.Clone(schedule)
		x, y := start(t, p, in), firstModel(p, in)
		y.agrees(x)
		for k, n := range schedule {
			l := y.ready()
			if len(l) == 0 {
				break
			}
			thread := l[(n%len(l)+len(l))%len(l)]
			kept := tidy(x.s)
			next := x.step(thread)
			x.is(kept)
			x, y = next, y.step(thread)
			y.agrees(x)
			if k%5 == 0 {
				x.plays(schedule[:k+1])
			}
		}
		x.plays(schedule)
		count.add(y)
		if !same(p, keptP) || !same(in, keptIn) || !slices.Equal(schedule, keptSchedule) {
			t.Fatalf("arguments have changed: %+v", keptP)
		}
	}
	count.needs(t, "how", api.HEnd, api.HThrow, api.HFail, api.HWait)
	count.needs(t, "kind", api.KThrow, api.KRelock, api.KUnlock, api.KHeld, api.KTaint, api.KCost, api.KAssert, api.KPre, api.KRange, api.KPart, api.KOrder)
	count.needs(t, "event", api.VRead, api.VWrite, api.VSource, api.VSink, api.VLock, api.VUnlock, api.VSend, api.VRecv, api.VUse, api.VCall, api.VReturn)
	count.needs(t, "stuck", api.VSource, api.VSend, api.VRecv, api.VLock, api.VCall)
}
