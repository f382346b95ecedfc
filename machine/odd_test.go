package machine_test

import (
	"math"
	"testing"

	"parole/api"
	"parole/machine"
)

// numbers are those with which a program that is not right is most likely to go wrong.
func (m maker) number() int {
	return pick(m, math.MinInt, -1<<40, -1, 0, 1, 2, 3, 12, 13, 64, 65, 1<<30, 1<<40, math.MaxInt, m.value())
}

// LANGUAGE.md: all calls end without a panic, also for programs that are not right; arguments stay as they are.
func TestOddPrograms(t *testing.T) {
	m := newMaker(17)
	for s := range inputs(18, 800, 2) {
		s.p = tidy(s.p)
		for range m.from(1, 6) {
			m.change(&s.p)
			if m.oneIn(2) && len(s.p.Defs) > 0 {
				d := &s.p.Defs[m.r.Intn(len(s.p.Defs))]
				*pick(m, valuesIn[int](valueOf(d))...) = m.number()
			}
		}
		args := pick(m, s.args, s.args, append(s.args, w(1, 1)), s.args[:len(s.args)/2], make([]api.Word, 40))
		given := pick(m, s.given, s.given, append(s.given, w(1, 1)), nil, make([]api.Word, 40))
		id := pick(m, s.id, s.id, s.id, s.id+1, 0, -1)
		before := tidy(s.p)
		machine.Run(s.p, id, args, given, s.l)
		machine.Seen(s.p, id, pick(m, allSites(s.p)...), args, given, s.l)
		for _, d := range s.p.Defs {
			machine.Lens(d, args)
		}
		if !same(s.p, before) {
			t.Fatalf("the program has changed: %+v", before)
		}
	}
}

// A call of a definition that is not open has no run.
func TestNoDefinition(t *testing.T) {
	for _, p := range []api.Program{{}, program(), closed(with(program(), plain()), second)} {
		if r := machine.Run(p, second, nil, nil, nil); !same(r, api.Run{}) {
			t.Errorf("%+v", r)
		}
		if l := machine.Seen(p, second, secondEnd, nil, nil, nil); len(l) != 0 {
			t.Errorf("%+v", l)
		}
	}
	if l := machine.Lens(api.Def{}, nil); len(l) != 0 {
		t.Errorf("%v", l)
	}
}

// What cannot be executed has no run, whatever it has done before.
func TestNoOperator(t *testing.T) {
	for _, op := range []int{-1, 0, api.SReturn + 1, 1<<32 + api.SSet} {
		p := program(st(1, api.SRead, 1, 0, none()), st(2, op, 1, 0, num(1)))
		if r := machine.Run(p, first, words(w(0, 0)), nil, answers(2)); !same(r, api.Run{}) {
			t.Errorf("operator %d: %+v", op, r)
		}
		if l := machine.Seen(p, first, 1, words(w(0, 0)), nil, answers(2)); len(l) != 0 {
			t.Errorf("operator %d: %+v", op, l)
		}
	}
}

// LANGUAGE.md: a circle of calls, which no program has that is right, ends when all statements are used.
func TestCircle(t *testing.T) {
	p := with(program(call(1, -1, second, nil)), plain(call(80, -1, second, nil)))
	r := machine.Run(p, first, words(w(0, 0)), nil, nil)
	if r.How != api.HFuel || r.Cost != api.MaxFuel || len(r.Calls) != api.MaxFuel {
		t.Errorf("%d, cost %d, %d calls", r.How, r.Cost, len(r.Calls))
	}
}
