package machine_test

import (
	"slices"
	"testing"

	"parole/api"
	"parole/machine"
	"parole/shape"
)

// A sample is a run, with all that it depends on.
type sample struct {
	p           api.Program
	id          int
	args, given []api.Word
	l           []api.Answer
	r           api.Run
}

func (s sample) with(l []api.Answer) api.Run { return machine.Run(s.p, s.id, s.args, s.given, l) }

// inputs yields what runs of all definitions of n programs need, of which one in so many is calm.
func inputs(seed int64, n, calm int) func(func(sample) bool) {
	m := newMaker(seed)
	return func(yield func(sample) bool) {
		for i := range n {
			p := m.calm()
			if i%calm > 0 {
				p = m.risky(p)
			}
			for _, d := range p.Defs {
				if !yield(sample{p: p, id: d.Id, args: m.words(d.Params), given: m.words(d.Given), l: m.answers()}) {
					return
				}
			}
		}
	}
}

// samples yields the inputs with their runs.
func samples(seed int64, n, calm int) func(func(sample) bool) {
	return func(yield func(sample) bool) {
		for s := range inputs(seed, n, calm) {
			s.r = s.with(s.l)
			if !yield(s) {
				return
			}
		}
	}
}

func isOpen(p api.Program, id int) bool {
	_, open := shape.Find(p, id)
	return open
}

func needsAnswer(p api.Program, e api.Event) bool {
	return e.Kind != api.VReturn && (e.Kind != api.VCall || !isOpen(p, e.N))
}

func isInput(e api.Event) bool {
	return slices.Contains([]int{api.VRead, api.VRecv, api.VSource}, e.Kind)
}

// P8.2: with fewer answers, a run is the beginning of the run, and waits.
func TestFewerAnswers(t *testing.T) {
	for s := range samples(2, 300, 2) {
		for k := range s.r.Used {
			r := s.with(s.l[:k])
			n := len(r.Ev)
			if r.How != api.HWait || r.Used != k || r.Cost > s.r.Cost || n >= len(s.r.Ev) || !same(r.Ev, s.r.Ev[:n]) || !needsAnswer(s.p, s.r.Ev[n]) {
				t.Fatalf("with %d answers, the run is\n%+v, and later\n%+v", k, r, s.r)
			}
			next := s.r.Ev[n]
			if isInput(next) {
				next.W = api.Word{}
			}
			if !same(r.Next, next) {
				t.Fatalf("with %d answers, the run waits for %+v, not for %+v", k, r.Next, next)
			}
		}
	}
}

// P8.2: further answers change nothing.
func TestFurtherAnswers(t *testing.T) {
	m := newMaker(3)
	for s := range samples(4, 300, 2) {
		if s.r.How == api.HWait {
			if s.r.Used != len(s.l) {
				t.Fatalf("the run waits with %d of %d answers", s.r.Used, len(s.l))
			}
			continue
		}
		for _, l := range [][]api.Answer{s.l[:s.r.Used], slices.Concat(s.l[:s.r.Used], m.answers()), slices.Concat(s.l, m.answers())} {
			if r := s.with(l); !same(r, s.r) {
				t.Fatalf("with other answers behind, the run is\n%+v, not\n%+v", r, s.r)
			}
		}
	}
}

// without returns what is left of a run when a definition is closed: its events, the answers that they need, and whether the definition was called and loads no parts.
func (s sample) without(id int) (ev []api.Event, l []api.Answer, fits bool) {
	answers, calls := s.l, false
	within := 0 // calls that are not over within one of the definition
	for _, e := range s.r.Ev {
		var x api.Answer
		if needsAnswer(s.p, e) {
			x, answers = answers[0], answers[1:]
		}
		switch {
		case within > 0 && e.Kind == api.VUse:
			return nil, nil, false
		case within > 0 && e.Kind == api.VCall:
			within++
		case within > 1 && e.Kind == api.VReturn:
			within--
		case within > 0 && e.Kind == api.VReturn:
			within, calls = 0, true
			ev, l = append(ev, e), append(l, api.Answer{W: e.W, Throw: e.Throw})
		case within > 0:
		case e.Kind == api.VCall && e.N == id:
			ev, within = append(ev, e), 1
		default:
			ev = append(ev, e)
			if needsAnswer(s.p, e) {
				l = append(l, x)
			}
		}
	}
	return ev, l, calls && within == 0
}

// P8.3.
func TestClosing(t *testing.T) {
	count := 0
	for s := range samples(5, 1000, 2) {
		if s.r.How != api.HEnd && s.r.How != api.HThrow {
			continue
		}
		for _, d := range s.p.Defs {
			ev, l, fits := s.without(d.Id)
			if d.Id == s.id || !fits {
				continue
			}
			count++
			r := machine.Run(closed(s.p, d.Id), s.id, s.args, s.given, l)
			if r.How != s.r.How || r.W != s.r.W || r.Throw != s.r.Throw || !same(r.Ev, ev) || r.Used != len(l) {
				t.Fatalf("with %d closed, the run is\n%+v, not\n%+v", d.Id, r, s.r)
			}
		}
	}
	if count < 200 {
		t.Errorf("only %d calls", count)
	}
}

// bare returns x without all masks.
func bare[T any](x T) T {
	out := tidy(x)
	for _, w := range valuesIn[api.Word](valueOf(&out)) {
		w.Mask = 0
	}
	return out
}

// wide returns a program in which no check of classes fails.
func wide(p api.Program) api.Program {
	q := tidy(p)
	for _, r := range valuesIn[api.Range](valueOf(&q)) {
		r.Mask = api.AllMask
	}
	for i := range q.D.Sinks {
		q.D.Sinks[i] = api.AllMask
	}
	return q
}

// P8.4: where no check of classes can fail, a run with other classes has the same values, and so has what is seen.
func TestClasses(t *testing.T) {
	m := newMaker(6)
	for s := range samples(7, 500, 3) {
		p := wide(s.p)
		a := machine.Run(p, s.id, s.args, s.given, s.l)
		b := machine.Run(p, s.id, bare(s.args), bare(s.given), bare(s.l))
		if !same(bare(a), b) {
			t.Fatalf("with classes, the run is\n%+v, without\n%+v", a, b)
		}
		site := pick(m, allSites(p)...)
		if x, y := machine.Seen(p, s.id, site, s.args, s.given, s.l), machine.Seen(p, s.id, site, bare(s.args), bare(s.given), bare(s.l)); !same(x, y) {
			t.Fatalf("at %d is seen %+v with classes, and %+v without", site, x, y)
		}
	}
}

// narrow returns a program whose globals, queues and sinks may get fewer classes.
func (m maker) narrow(p api.Program) api.Program {
	q := tidy(p)
	for _, r := range valuesIn[api.Range](valueOf(&q.D)) {
		r.Mask &= m.from(0, 255)
	}
	for i := range q.D.Sinks {
		q.D.Sinks[i] &= m.from(0, 255)
	}
	return q
}

// P8.4: what a run with classes does is the beginning of what it does without, up to a check that has to do with classes.
func TestChecksOfClasses(t *testing.T) {
	m, ended := newMaker(19), 0
	for s := range inputs(8, 800, 1) {
		s.p = m.narrow(s.p)
		s.r = s.with(s.l)
		b := machine.Run(s.p, s.id, bare(s.args), bare(s.given), bare(s.l))
		if same(bare(s.r), b) {
			continue
		}
		ended++
		n := len(s.r.Ev)
		if s.r.How != api.HFail || !slices.Contains([]int{api.KTaint, api.KRange, api.KPre}, s.r.Fail.Kind) || n > len(b.Ev) || !same(bare(s.r.Ev), b.Ev[:n]) {
			t.Fatalf("with classes, the run is\n%+v, without\n%+v", s.r, b)
		}
	}
	if ended < 100 {
		t.Errorf("only %d checks of classes have failed", ended)
	}
}

// P8.5.
func TestCosts(t *testing.T) {
	for s := range samples(9, 300, 3) {
		ends := map[int]bool{}
		for _, d := range s.p.Defs {
			ends[d.Site] = true
		}
		seen := 0
		for _, site := range allSites(s.p) {
			if !ends[site] {
				seen += len(machine.Seen(s.p, s.id, site, s.args, s.given, s.l))
			}
		}
		if s.r.Cost != seen || seen > 20000 {
			t.Fatalf("statements are seen %d times, and the cost is %d", seen, s.r.Cost)
		}
	}
}

// P8.6: locks are taken and given back in turns, by the same definition; after the end, none is held.
func TestLocksInTurns(t *testing.T) {
	for s := range samples(10, 600, 2) {
		held := map[int]int{}
		for _, e := range s.r.Ev {
			switch by, taken := held[e.N]; {
			case e.Kind == api.VLock && taken || e.Kind == api.VUnlock && by != e.Def:
				t.Fatalf("%+v is out of turn in\n%+v", e, s.r)
			case e.Kind == api.VLock:
				held[e.N] = e.Def
			case e.Kind == api.VUnlock:
				delete(held, e.N)
			}
		}
		if len(held) > 0 && (s.r.How == api.HEnd || s.r.How == api.HThrow) {
			t.Fatalf("%v are held after\n%+v", held, s.r)
		}
	}
}

// P8.6: the answers of operations that give nothing do not matter.
func TestAnswersThatDoNotMatter(t *testing.T) {
	m := newMaker(11)
	for s := range samples(12, 800, 2) {
		l, k := slices.Clone(s.l), 0
		for _, e := range s.r.Ev {
			if !needsAnswer(s.p, e) {
				continue
			}
			if !isInput(e) && e.Kind != api.VCall {
				l[k] = api.Answer{W: w(m.value(), m.mask()), Throw: m.from(0, 31)}
			}
			if isInput(e) {
				l[k].Throw = m.from(0, 31)
			}
			k++
		}
		if r := s.with(l); !same(r, s.r) {
			t.Fatalf("with other answers, the run is\n%+v, not\n%+v", r, s.r)
		}
	}
}

// canFail returns the kinds of failures of a kind of statement; 0 stands for the end of a definition.
func canFail(op int) []int {
	return map[int][]int{
		0: {api.KLeak, api.KHeld, api.KCost}, api.SLoad: {api.KIndex}, api.SStore: {api.KIndex}, api.SWrite: {api.KRange}, api.SSend: {api.KRange}, api.SSink: {api.KTaint},
		api.SNew: {api.KLeak}, api.SFree: {api.KUse}, api.SMove: {api.KUse, api.KLeak}, api.SPut: {api.KUse}, api.SGet: {api.KUse},
		api.SCall: {api.KPart, api.KPre, api.KUse}, api.SLock: {api.KRelock}, api.SUnlock: {api.KUnlock}, api.SAssert: {api.KAssert},
	}[op]
}

// P8.7.
func TestFailures(t *testing.T) {
	failed := 0
	for s := range samples(13, 1000, 50) {
		d, _ := shape.Find(s.p, s.id)
		for _, site := range s.r.Calls {
			x, ok := shape.At(d, site)
			if !ok || x.Op != api.SCall || s.r.How == api.HEnd || s.r.How == api.HThrow {
				t.Fatalf("the calls do not lead anywhere: %+v", s.r)
			}
			d, _ = shape.Find(s.p, x.M)
		}
		if s.r.How != api.HFail {
			if s.r.Fail != (api.Failure{}) {
				t.Fatalf("a failure of a run that does not fail: %+v", s.r)
			}
			continue
		}
		failed++
		x, ok := shape.At(d, s.r.Fail.Site)
		if !ok && s.r.Fail.Site != d.Site || !slices.Contains(canFail(x.Op), s.r.Fail.Kind) {
			t.Fatalf("%+v fails at %+v of %d", s.r, x, d.Id)
		}
	}
	if failed < 200 {
		t.Errorf("only %d runs have failed", failed)
	}
}

// P8.8.
func TestCalm(t *testing.T) {
	ended := 0
	for s := range samples(14, 1200, 1) {
		if s.r.How == api.HFail || s.r.How == api.HFuel {
			t.Fatalf("the run of %d fails: %+v\n%+v", s.id, s.r, s.p)
		}
		if s.r.How == api.HEnd {
			ended++
		}
	}
	if ended < 500 {
		t.Errorf("only %d runs have ended", ended)
	}
}

// H3: arguments are not modified, by the calls and by changes of their results.
func TestArgumentsStay(t *testing.T) {
	m := newMaker(15)
	for s := range inputs(16, 300, 3) {
		d, _ := shape.Find(s.p, s.id)
		p, args, given, answers := tidy(s.p), tidy(s.args), tidy(s.given), tidy(s.l)
		site := pick(m, allSites(s.p)...)
		a, b := s.with(s.l), s.with(s.l)
		x, y := machine.Seen(s.p, s.id, site, s.args, s.given, s.l), machine.Seen(s.p, s.id, site, s.args, s.given, s.l)
		u, v := machine.Lens(d, s.args), machine.Lens(d, s.args)
		run, looks, lens := tidy(b), tidy(y), tidy(v)
		spoil(&a)
		spoil(&x)
		spoil(&u)
		if !same(s.p, p) || !same(s.args, args) || !same(s.given, given) || !same(s.l, answers) {
			t.Fatalf("arguments have changed: %+v", s)
		}
		if !same(b, run) || !same(y, looks) || !same(v, lens) {
			t.Fatalf("results share memory: %+v", s)
		}
	}
}

// spoil changes all numbers that x leads to.
func spoil(x any) {
	for _, n := range valuesIn[int](valueOf(x)) {
		*n = ^*n
	}
}

// LANGUAGE.md: no two lists of a result share memory.
func TestResultsAreApart(t *testing.T) {
	p := program(loop(1, 3, always(), set(2, 1, add(variable(1), num(1)))))
	l := machine.Seen(p, first, 2, words(w(5, 1)), nil, nil)
	l[0].Vars[1], l[0].Lens[0] = 77, 78
	if !same(l[1:], []api.Look{{Vars: []int{5, 1, 0, 0}, Lens: []int{4, 5}}, {Vars: []int{5, 2, 0, 0}, Lens: []int{4, 5}}}) {
		t.Errorf("looks share memory: %+v", l)
	}
	p = with(program(append(passing(variable(0)), call(7, -1, second+1, exprs(num(0), num(-3))))...), callee())
	h := p.Heads[1]
	h.Id, h.Given = second+1, nil
	p.Heads = append(p.Heads, h)
	r := machine.Run(p, first, words(w(4, 1)), nil, answers(1))
	spoil(&r.Next)
	spoil(&r.Ev[2])
	if !same(r.Ev[1], entered(w(4, 1))) {
		t.Errorf("events share memory: %+v", r)
	}
}
