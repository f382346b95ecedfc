package machine_test

import (
	"testing"

	"parole/api"
	"parole/machine"
)

// sees tests what is seen at a site with the argument {5, 1}; each look has the lengths 4 and 5.
func sees(t *testing.T, p api.Program, site int, l []api.Answer, vars ...[]int) {
	t.Helper()
	needRight(t, p)
	var want []api.Look
	for _, v := range vars {
		want = append(want, api.Look{Vars: v, Lens: []int{4, 5}})
	}
	if got := machine.Seen(p, first, site, words(w(5, 1)), nil, l); !same(got, want) {
		t.Errorf("at site %d is seen %+v, not %+v", site, got, want)
	}
}

// P8.1, H2: a loop is seen whenever its condition is evaluated, and all others whenever they are about to be executed, also where they fail or wait.
func TestSeen(t *testing.T) {
	up, other := set(2, 1, add(variable(1), num(2))), set(3, 2, num(1))
	result := back(4, variable(1))
	p := program(loop(1, 3, less(variable(1), num(4)), up), st(3, api.SRead, 2, 0, none()), result, assert(5, always()))
	l := []api.Answer{answer(6, 1)}
	sees(t, p, 1, l, []int{5, 0, 0, 0}, []int{5, 2, 0, 0}, []int{5, 4, 0, 0})
	sees(t, p, 2, l, []int{5, 0, 0, 0}, []int{5, 2, 0, 0})
	sees(t, p, 3, l, []int{5, 4, 0, 0})
	sees(t, p, 4, l, []int{5, 4, 6, 0})
	sees(t, p, end, l, []int{5, 4, 6, 0})
	for _, site := range []int{-1, 0, 5, 6, secondEnd, 1 << 30, 1 << 62} {
		sees(t, p, site, l)
	}
	sees(t, p, 3, nil, []int{5, 4, 0, 0})
	sees(t, p, 4, nil)
	sees(t, p, end, nil) // the activation is not over
	sees(t, program(loop(1, 2, always(), up)), 1, nil, []int{5, 0, 0, 0}, []int{5, 2, 0, 0})
	sees(t, program(assert(1, never())), 1, nil, []int{5, 0, 0, 0})
	sees(t, program(assert(1, never())), end, nil)
	sees(t, program(throw(1, 3)), end, nil, []int{5, 0, 0, 0})
	sees(t, program(by(1, api.SNew, 0)), end, nil, []int{5, 0, 0, 0}) // ahead of the checks
	sees(t, program(try(1, 1, list(throw(2, 3)), list(other))), 3, nil, []int{5, 3, 0, 0})
	sees(t, program(choose(1, never(), list(up), list(other))), 2, nil)
	sees(t, program(choose(1, never(), list(up), list(other))), 3, nil, []int{5, 0, 0, 0})
}

// P8.1, H2: what is seen are the variables and arrays of the activation in which the site is.
func TestSeenInCalls(t *testing.T) {
	l := append(passing(num(2)), set(10, 3, num(9)), by(11, api.SNew, 0), by(12, api.SNew, 1), st(13, api.SPut, 0, 0, num(1)), call(14, -1, second, exprs(num(1), num(-4)), 1, 0))
	p := with(program(l...), callee(set(90, 2, num(7))))
	looks := func(site int, want ...api.Look) {
		t.Helper()
		if got := machine.Seen(p, first, site, words(w(5, 1)), nil, answers(1)); !same(got, want) {
			t.Errorf("at site %d is seen %+v, not %+v", site, got, want)
		}
	}
	at := func(length int, vars ...int) api.Look { return api.Look{Vars: vars, Lens: []int{length}} }
	outer := api.Look{Vars: []int{5, 0, 0, 9}, Lens: []int{4, 5}}
	p.Defs[0].Body[9].X = num(0) // the field is too small for the second call
	looks(14, outer)
	looks(90, at(2, 2, -3, 0))
	p.Defs[0].Body[9].X = num(1)
	looks(80, at(2, 2, -3, 0), at(1, 1, -4, 0))
	looks(90, at(2, 2, -3, 0), at(1, 1, -4, 0))
	looks(secondEnd, at(2, 2, -3, 7), at(1, 1, -4, 7))
	looks(end, outer)
}

// P8.1, H2.
func TestLens(t *testing.T) {
	d := program().Defs[0]
	for arg, want := range map[int]int{api.MinInt: 0, -9: 0, -1: 0, 0: 0, 1: 1, 5: 5, 6: 6, 7: 6, 99: 6, api.MaxInt: 6} {
		if l := machine.Lens(d, words(w(arg, 3))); !same(l, []int{4, want}) {
			t.Errorf("for %d: %v", arg, l)
		}
	}
	d.Params = []api.Range{{Hi: 9}, {Hi: 9}, {Hi: 9}}
	d.Arrays = []api.Array{{Len: 64, Of: 3}, {Len: 1}, {Len: 5, Of: 1}, {Len: 3, Of: 2}}
	if l := machine.Lens(d, words(w(4, 0), w(9, 0), w(8, 0))); !same(l, []int{8, 1, 4, 3}) {
		t.Errorf("of three parameters: %v", l)
	}
	d.Arrays = nil
	if l := machine.Lens(d, nil); len(l) != 0 {
		t.Errorf("without arrays: %v", l)
	}
}

// P8.1: lengths are those of the beginning.
func TestLengthsStay(t *testing.T) {
	p := program(set(1, 1, num(50)), st(2, api.SLoad, 1, 1, num(1)), store(3, 1, num(0), num(8)), back(4, length(1)))
	runs(t, p, w(2, 0), nil, ends(w(2, 0), 4))
}
