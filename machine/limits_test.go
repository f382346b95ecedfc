package machine_test

import (
	"testing"

	"parole/api"
	"parole/machine"
)

// spend returns statements that are seen n times together, from these sites on; the last one to be seen is not a loop.
func spend(n int, site *int) []api.Stmt {
	var l []api.Stmt
	next := func() int {
		*site++
		return *site
	}
	one := func() { l = append(l, set(next(), 1, num(*site))) }
	if n > 40 {
		l = append(l, loop(next(), 16, always(), spend(n/16-2, site)...))
		n -= 16 * (n/16 - 1)
	}
	for range n {
		one()
	}
	return l
}

func spending(n int) []api.Stmt { return spend(n, new(int)) }

// P8.1, P8.5: a run of 20000 statements ends, and with one more it does not, whatever this is.
func TestFuel(t *testing.T) {
	for _, n := range []int{0, 1, 40, 41, 1000, api.MaxFuel - 1, api.MaxFuel} {
		runs(t, program(spending(n)...), w(0, 0), nil, ends(w(0, 0), n))
	}
	empty := after(api.HFuel, api.MaxFuel, nil)
	runs(t, program(spending(api.MaxFuel+1)...), w(0, 0), nil, empty)
	full := spending(api.MaxFuel)
	for _, s := range []api.Stmt{
		set(9000, 1, num(1)), loop(9000, 1, never()), choose(9000, never(), nil, nil), try(9000, 1, nil, nil), throw(9000, 1), back(9000, num(1)),
		assert(9000, never()), st(9000, api.SRead, 1, 0, none()), by(9000, api.SFree, 0), call(9000, -1, second, nil),
	} {
		p := with(program(append(full, s)...), plain())
		runs(t, p, w(0, 0), answers(1), empty)
		runs(t, p, w(0, 0), nil, empty)
		if l := machine.Seen(p, first, 9000, words(w(0, 0)), nil, nil); len(l) != 0 {
			t.Errorf("%+v is seen: %+v", s, l)
		}
		if l := machine.Seen(p, first, end, words(w(0, 0)), nil, nil); len(l) != 0 {
			t.Errorf("the end is seen: %+v", l)
		}
	}
}

// P8.1, P8.5: the last evaluation of a condition is one time more.
func TestFuelOfLoops(t *testing.T) {
	up := list(set(9001, 2, add(variable(2), num(1))), set(9002, 3, num(1)))
	for n, want := range map[int]api.Run{
		api.MaxFuel - 7: ends(w(0, 0), api.MaxFuel), api.MaxFuel - 6: after(api.HFuel, api.MaxFuel, nil), api.MaxFuel - 5: after(api.HFuel, api.MaxFuel, nil),
	} {
		runs(t, program(append(spending(n), loop(9000, 3, less(variable(2), num(2)), up...))...), w(0, 0), nil, want)
		runs(t, program(append(spending(n-2), loop(9000, 3, always(), up...))...), w(0, 0), nil, want)
	}
}

// P8.1, P8.5: callees spend what is left; the end of a definition costs nothing, and the failures there come about.
func TestFuelOfCalls(t *testing.T) {
	into, out := called(9000, second), returned(9000, second, w(0, 0), 0)
	body := append(spending(api.MaxFuel-10), call(9000, -1, second, nil))
	runs(t, with(program(body...), plain(spend(9, at(10000))...)), w(0, 0), nil, ends(w(0, 0), api.MaxFuel, into, out))
	runs(t, with(program(body...), plain(spend(10, at(10000))...)), w(0, 0), nil, within(after(api.HFuel, api.MaxFuel, []api.Event{into}), 9000))
	runs(t, with(program(append(body, set(9001, 1, num(1)))...), plain(spend(9, at(10000))...)), w(0, 0), nil, after(api.HFuel, api.MaxFuel, []api.Event{into, out}))
	p := program(spending(api.MaxFuel)...)
	p.Defs[0].Budget = api.MaxFuel - 1
	runs(t, p, w(0, 0), nil, fails(end, api.KCost, api.MaxFuel))
	if l := machine.Seen(p, first, end, words(w(0, 0)), nil, nil); len(l) != 1 {
		t.Errorf("the end is seen %d times", len(l))
	}
	caught := try(9003, 1, body, nil) // the end of a run is no exception
	runs(t, with(program(caught), plain(spend(9, at(10000))...)), w(0, 0), nil, within(after(api.HFuel, api.MaxFuel, []api.Event{into}), 9000))
}

func at(site int) *int { return &site }

// P8.1: as many of everything as there may be.
func TestGreatestShapes(t *testing.T) {
	widest := func() api.Range { return api.Range{Lo: api.MinInt, Hi: api.MaxInt, Mask: api.AllMask} }
	d := api.Def{
		Id: first, Site: end, Name: "a", Part: 15, Params: some(11, widest), Given: some(4, widest), Vars: 12, Refs: 4,
		Arrays: []api.Array{{Len: 64}, {Len: 64}, {Len: 64, Of: 11}, {Len: 64, Of: 1}}, Budget: api.MaxFuel,
		Body: list(store(1, 3, num(63), variable(10)), st(2, api.SLoad, 11, 3, num(63)), by(3, api.SFree, 3), by(4, api.SFree, 0), by(5, api.SFree, 2), by(6, api.SFree, 1), back(7, variable(11))),
	}
	args := some(11, func() api.Word { return w(api.MaxInt, 255) })
	given := some(4, func() api.Word { return w(api.MinInt, 255) })
	p := with(api.Program{D: decl()}, d)
	needRight(t, p)
	if r := machine.Run(p, first, args, given, nil); !same(r, ends(w(api.MaxInt, 255), 7)) {
		t.Errorf("%+v", r)
	}
	args[0] = w(63, 0)
	if r := machine.Run(p, first, args, given, nil); !same(r, fails(1, api.KIndex, 1)) {
		t.Errorf("an array that is one shorter: %+v", r)
	}
}

// P8.1: 39 calls within each other, each in ten statements.
func TestDeepCalls(t *testing.T) {
	p := api.Program{D: decl()}
	var sites []int
	for i := range api.MaxDefs {
		inner := throw(1000*i+1, 7)
		if i < api.MaxDefs-1 {
			inner = call(1000*i+1, -1, i+2, nil)
			sites = append(sites, 1000*i+1)
		}
		for k := range api.MaxDepth - 1 {
			inner = try(1000*i+10+k, 0, list(inner), list(throw(1000*i+100+k, 30)))
		}
		p = with(p, api.Def{Id: i + 1, Site: 1000*i + 999, Name: "a", Vars: 1, Budget: api.MaxFuel, Body: list(inner)})
	}
	needRight(t, p)
	// Each definition has ten statements on the way in, and nine throws on the way out.
	r := machine.Run(p, 1, nil, nil, nil)
	if r.How != api.HThrow || r.Throw != 30 || r.Cost != 19*api.MaxDefs || len(r.Ev) != 2*len(sites) || len(r.Calls) != 0 {
		t.Errorf("%+v", r)
	}
	l := p.Defs[api.MaxDefs-1].Body[0].Body
	for l[0].Op == api.STry {
		l = l[0].Body
	}
	l[0] = assert(l[0].Site, never())
	r = machine.Run(p, 1, nil, nil, nil)
	if !same(r.Calls, sites) || r.Fail != (api.Failure{Site: l[0].Site, Kind: api.KAssert}) || r.Cost != 10*api.MaxDefs {
		t.Errorf("%+v", r)
	}
}
