package machine_test

import (
	"testing"

	"parole/api"
	"parole/machine"
)

// P8.1, H1: the example of the chapter.
func TestExample(t *testing.T) {
	d := api.Def{
		Id: first, Site: 3, Name: "a", Params: []api.Range{{Hi: 5}}, Vars: 2, Arrays: []api.Array{{Len: 4}}, Budget: 9,
		Body: list(st(1, api.SLoad, 1, 0, variable(0)), back(2, add(variable(1), num(1)))),
	}
	p := with(api.Program{D: decl()}, d)
	runs(t, p, w(2, 0), nil, ends(w(1, 0), 2))
	runs(t, p, w(4, 0), nil, fails(1, api.KIndex, 1))
	if l := machine.Seen(p, first, 2, words(w(2, 0)), nil, nil); !same(l, []api.Look{{Vars: []int{2, 0}, Lens: []int{4}}}) {
		t.Errorf("seen: %+v", l)
	}
}

// P8.1: an activation at first.
func TestFirstWords(t *testing.T) {
	runs(t, program(), w(5, 4), nil, ends(w(0, 0), 0))
	for n, want := range []api.Word{w(5, 4), w(0, 0), w(0, 0), w(0, 0)} {
		runs(t, program(back(1, variable(n))), w(5, 4), nil, ends(want, 1))
	}
	for m := range 2 {
		runs(t, program(st(1, api.SLoad, 1, m, num(2)), back(2, variable(1))), w(5, 4), nil, ends(w(0, 0), 2))
	}
	for n := range 3 {
		runs(t, program(st(1, api.SGet, 1, n, none())), w(5, 4), nil, fails(1, api.KUse, 1))
	}
}

// P8.1: the first references have the given records.
func TestGivenRecords(t *testing.T) {
	d := api.Def{Id: first, Site: end, Name: "a", Given: []api.Range{{Lo: -5, Hi: 5, Mask: 3}, {Hi: 9}}, Vars: 2, Refs: 3, Budget: 9}
	for n, want := range []api.Run{ends(w(-5, 3), 4), ends(w(9, 0), 4)} {
		d.Body = list(st(1, api.SGet, 1, n, none()), by(2, api.SFree, 0), by(3, api.SFree, 1), back(4, variable(1)))
		r := machine.Run(with(api.Program{D: decl()}, d), first, nil, words(w(-5, 3), w(9, 0)), nil)
		if !same(r, want) {
			t.Errorf("reference %d: %+v", n, r)
		}
	}
	d.Body = list(by(1, api.SFree, 2))
	if r := machine.Run(with(api.Program{D: decl()}, d), first, nil, words(w(1, 0), w(1, 0)), nil); !same(r, fails(1, api.KUse, 1)) {
		t.Errorf("a reference without a given record: %+v", r)
	}
	d.Body = list(by(1, api.SFree, 0))
	if r := machine.Run(with(api.Program{D: decl()}, d), first, nil, words(w(1, 0), w(1, 0)), nil); !same(r, fails(end, api.KLeak, 1)) {
		t.Errorf("a given record is left: %+v", r)
	}
}

// P8.1: SSet, and the words of expressions.
func TestWords(t *testing.T) {
	read := st(1, api.SRead, 1, 0, none())
	for _, c := range []struct {
		x    api.Expr
		want api.Word
	}{
		{num(3), w(3, 0)}, {variable(0), w(5, 4)}, {variable(1), w(8, 3)}, {variable(2), w(0, 0)},
		{length(0), w(4, 0)}, {length(1), w(5, 0)}, // the mask of the parameter is not that of the length
		{add(variable(0), variable(1)), w(13, 7)}, {add(variable(1), num(2)), w(10, 3)}, {expr(api.EMul, num(0), variable(0)), w(0, 4)},
		{expr(api.ESub, length(1), expr(api.EMin, variable(1), num(1))), w(4, 3)},
		{add(num(api.MaxInt), variable(0)), w(api.MinInt+4, 4)},
	} {
		l, e := []api.Answer{answer(8, 3)}, event(api.VRead, 1, 0, w(8, 3))
		runs(t, program(read, back(2, c.x)), w(5, 4), l, ends(c.want, 2, e))
		runs(t, program(read, set(2, 3, c.x), back(3, variable(3))), w(5, 4), l, ends(c.want, 3, e))
	}
	runs(t, program(set(1, 1, variable(0)), set(2, 1, num(3)), back(3, variable(1))), w(5, 4), nil, ends(w(3, 0), 3))
	runs(t, program(set(1, 1, num(1)), set(2, 1, add(variable(1), variable(1))), back(3, variable(1))), w(5, 4), nil, ends(w(2, 0), 3))
}

// P8.1: SLoad and SStore: both sides of the lengths.
func TestIndices(t *testing.T) {
	for _, c := range []struct{ arg, array, length int }{
		{0, 0, 4}, {-9, 1, 0}, {0, 1, 0}, {1, 1, 1}, {5, 1, 5}, {6, 1, 6}, {7, 1, 6}, {99, 1, 6},
	} {
		for _, i := range []int{api.MinInt, -2, -1, 0, 1, 3, 4, 5, 6, 7, 63, 64, 65, api.MaxInt} {
			load, put := st(1, api.SLoad, 1, c.array, num(i)), store(1, c.array, num(i), num(9))
			want := fails(1, api.KIndex, 1)
			if 0 <= i && i < c.length {
				want = ends(w(0, 0), 1)
			}
			runs(t, program(load), w(c.arg, 0), nil, want)
			runs(t, program(put), w(c.arg, 0), nil, want)
		}
	}
}

// P8.1: SLoad and SStore: elements, and one mask for each array, to which indices add nothing.
func TestArrays(t *testing.T) {
	load := func(site, m, i int) api.Stmt { return st(site, api.SLoad, 1, m, num(i)) }
	result := back(9, variable(1))
	for _, c := range []struct {
		l    []api.Stmt
		want api.Run
	}{
		{list(store(1, 0, num(3), num(8)), load(2, 0, 3), result), ends(w(8, 0), 3)},
		{list(store(1, 0, num(3), num(8)), load(2, 0, 2), result), ends(w(0, 0), 3)},
		{list(store(1, 0, num(3), num(8)), load(2, 1, 3), result), ends(w(0, 0), 3)},
		{list(store(1, 1, num(3), num(8)), load(2, 1, 3), result), ends(w(8, 0), 3)},
		{list(store(1, 0, num(3), variable(0)), load(2, 0, 3), result), ends(w(5, 4), 3)},
		{list(store(1, 0, num(3), variable(0)), load(2, 0, 0), result), ends(w(0, 4), 3)},
		{list(store(1, 0, num(3), variable(0)), load(2, 1, 3), result), ends(w(0, 0), 3)},
		{list(store(1, 0, num(3), variable(0)), store(2, 0, num(3), num(1)), load(3, 0, 3), result), ends(w(1, 4), 4)},
		{list(st(1, api.SSource, 2, 0, none()), store(2, 0, num(1), variable(2)), store(3, 0, num(2), variable(0)), load(4, 0, 1), result), ends(w(6, 5), 5, event(api.VSource, 1, 0, w(6, 1)))},
		{list(set(1, 2, expr(api.ESub, variable(0), num(3))), store(2, 0, variable(2), num(8)), load(3, 0, 2), result), ends(w(8, 0), 4)},
		{list(set(1, 2, expr(api.ESub, variable(0), num(3))), store(2, 0, num(2), num(8)), st(3, api.SLoad, 1, 0, variable(2)), result), ends(w(8, 0), 4)},
		{list(store(1, 0, num(0), length(1)), load(2, 0, 0), result), ends(w(5, 0), 3)},
		{list(set(1, 1, num(2)), st(2, api.SLoad, 1, 0, variable(1)), result), ends(w(0, 0), 3)},
	} {
		runs(t, program(c.l...), w(5, 4), []api.Answer{answer(6, 1)}, c.want)
	}
}

// P8.1: SRead, SRecv and SSource: the answer becomes the word of the variable and of the event, whatever the ranges are; an exception of it does not matter.
func TestInputs(t *testing.T) {
	for op, kind := range map[int]int{api.SRead: api.VRead, api.SRecv: api.VRecv, api.SSource: api.VSource} {
		for m := range 2 {
			p := program(st(1, op, 2, m, none()), back(2, variable(2)))
			for _, x := range []api.Word{w(0, 0), w(77, 255), w(api.MinInt, 8), w(api.MaxInt, 3)} {
				runs(t, p, w(5, 4), []api.Answer{{W: x}}, ends(x, 2, event(kind, 1, m, x)))
				runs(t, p, w(5, 4), []api.Answer{{W: x, Throw: 3}, answer(1, 1)}, ends(x, 2, event(kind, 1, m, x)))
			}
			runs(t, p, w(5, 4), nil, waits(event(kind, 1, m, w(0, 0)), 1))
		}
	}
}

// P8.1: SWrite, SSend and SSink: ranges and classes; the answer does not matter.
func TestOutputs(t *testing.T) {
	for _, c := range []struct {
		op, m, v, mask int
		well           bool
	}{
		{api.SWrite, 0, 0, 7, true}, {api.SWrite, 0, 9, 7, true}, {api.SWrite, 0, -1, 0, false}, {api.SWrite, 0, 10, 0, false},
		{api.SWrite, 1, -3, 5, true}, {api.SWrite, 1, 4, 1, true}, {api.SWrite, 1, -4, 5, false}, {api.SWrite, 1, 5, 5, false}, {api.SWrite, 1, 4, 2, false}, {api.SWrite, 1, 4, 7, false},
		{api.SSend, 0, 0, 0, true}, {api.SSend, 0, 1, 0, false}, {api.SSend, 0, -1, 0, false}, {api.SSend, 0, 0, 1, false},
		{api.SSend, 1, 1, 6, true}, {api.SSend, 1, 6, 2, true}, {api.SSend, 1, 0, 6, false}, {api.SSend, 1, 7, 6, false}, {api.SSend, 1, 6, 1, false},
		{api.SSink, 0, 88, 0, true}, {api.SSink, 0, 0, 1, false}, {api.SSink, 1, -9, 7, true}, {api.SSink, 2, 0, 5, true}, {api.SSink, 2, 0, 4, true}, {api.SSink, 2, 0, 2, false}, {api.SSink, 2, 0, 7, false},
	} {
		p := program(st(1, c.op, 0, c.m, variable(0)), back(2, num(3)))
		visible := map[int]int{api.SWrite: api.VWrite, api.SSend: api.VSend, api.SSink: api.VSink}[c.op]
		failure := map[int]int{api.SWrite: api.KRange, api.SSend: api.KRange, api.SSink: api.KTaint}[c.op]
		x := w(c.v, c.mask)
		e := event(visible, 1, c.m, x)
		if !c.well {
			runs(t, p, x, []api.Answer{answer(1, 1)}, fails(1, failure, 1))
			continue
		}
		runs(t, p, x, []api.Answer{answer(1, 1)}, ends(w(3, 0), 2, e))
		runs(t, p, x, []api.Answer{{Throw: 5}, {}}, ends(w(3, 0), 2, e))
		runs(t, p, x, nil, waits(e, 1))
	}
	runs(t, program(st(1, api.SWrite, 0, 0, add(variable(0), num(3)))), w(5, 4), answers(1), ends(w(0, 0), 1, event(api.VWrite, 1, 0, w(8, 4))))
}

// P8.1: SNew, SFree, SMove, SPut and SGet.
func TestReferences(t *testing.T) {
	create, free := func(site, n int) api.Stmt { return by(site, api.SNew, n) }, func(site, n int) api.Stmt { return by(site, api.SFree, n) }
	move := func(site, n, m int) api.Stmt { return st(site, api.SMove, n, m, none()) }
	put := func(site, n int, x api.Expr) api.Stmt { return st(site, api.SPut, n, 0, x) }
	get := func(site, m int) api.Stmt { return st(site, api.SGet, 1, m, none()) }
	result := back(9, variable(1))
	for _, c := range []struct {
		l    []api.Stmt
		want api.Run
	}{
		{list(create(1, 0), get(2, 0), free(3, 0), result), ends(w(0, 0), 4)},
		{list(create(1, 0), put(2, 0, variable(0)), get(3, 0), free(4, 0), result), ends(w(5, 4), 5)},
		{list(create(1, 2), put(2, 2, variable(0)), put(3, 2, num(1)), get(4, 2), free(5, 2), result), ends(w(1, 0), 6)},
		{list(create(1, 0), create(2, 1), put(3, 0, num(3)), get(4, 1), free(5, 0), free(6, 1), result), ends(w(0, 0), 7)},
		{list(create(1, 0), put(2, 0, num(3)), free(3, 0), create(4, 0), get(5, 0), free(6, 0), result), ends(w(0, 0), 7)},
		{list(create(1, 1), put(2, 1, variable(0)), move(3, 2, 1), get(4, 2), free(5, 2), result), ends(w(5, 4), 6)},
		{list(create(1, 1), put(2, 1, variable(0)), move(3, 1, 1), get(4, 1), free(5, 1), result), ends(w(5, 4), 6)},
		{list(create(1, 1), move(2, 2, 1), create(3, 1), free(4, 1), free(5, 2)), ends(w(0, 0), 5)},
		{list(create(1, 1), move(2, 2, 1), get(3, 1)), fails(3, api.KUse, 3)},
		{list(create(1, 1), create(2, 1)), fails(2, api.KLeak, 2)},
		{list(free(1, 0)), fails(1, api.KUse, 1)},
		{list(create(1, 0), free(2, 0), free(3, 0)), fails(3, api.KUse, 3)},
		{list(create(1, 0), free(2, 1)), fails(2, api.KUse, 2)},
		{list(put(1, 0, num(1))), fails(1, api.KUse, 1)},
		{list(create(1, 0), put(2, 1, num(1))), fails(2, api.KUse, 2)},
		{list(get(1, 0)), fails(1, api.KUse, 1)},
		{list(move(1, 0, 1)), fails(1, api.KUse, 1)},
		{list(move(1, 1, 1)), fails(1, api.KUse, 1)},
		{list(create(1, 0), move(2, 0, 1)), fails(2, api.KUse, 2)}, // ahead of KLeak
		{list(create(1, 0), create(2, 1), move(3, 0, 1)), fails(3, api.KLeak, 3)},
	} {
		runs(t, program(c.l...), w(5, 4), nil, c.want)
	}
}

// P8.1: SIf.
func TestIf(t *testing.T) {
	s := choose(1, less(variable(0), num(3)), list(set(2, 1, num(1)), set(3, 2, num(1))), list(set(4, 1, num(2))))
	runs(t, program(s, back(5, variable(1))), w(2, 0), nil, ends(w(1, 0), 4))
	runs(t, program(s, back(5, variable(1))), w(3, 0), nil, ends(w(2, 0), 3))
	s.Else = nil
	runs(t, program(s, back(5, variable(1))), w(3, 4), nil, ends(w(0, 0), 2)) // a condition adds no classes
	runs(t, program(choose(1, always(), list(back(2, num(7))), nil), back(3, num(8))), w(0, 0), nil, ends(w(7, 0), 2))
	runs(t, program(choose(1, never(), nil, list(back(2, num(7)))), back(3, num(8))), w(0, 0), nil, ends(w(7, 0), 2))
}

// P8.1: SWhile evaluates its condition once less where the bound ends it.
func TestWhile(t *testing.T) {
	up := set(2, 1, add(variable(1), num(1)))
	result := back(9, variable(1))
	for _, c := range []struct {
		l    []api.Stmt
		want api.Run
	}{
		{list(loop(1, 3, less(variable(1), num(0)), up), result), ends(w(0, 0), 2)},
		{list(loop(1, 3, less(variable(1), num(2)), up), result), ends(w(2, 0), 6)},
		{list(loop(1, 3, less(variable(1), num(3)), up), result), ends(w(3, 0), 7)},
		{list(loop(1, 3, less(variable(1), num(9)), up), result), ends(w(3, 0), 7)},
		{list(loop(1, 1, always(), up), result), ends(w(1, 0), 3)},
		{list(loop(1, 16, always(), up), result), ends(w(16, 0), 33)},
		{list(loop(1, 5, always()), result), ends(w(0, 0), 6)},
		{list(loop(1, 2, always(), loop(3, 2, always(), up)), result), ends(w(4, 0), 11)},
		{list(loop(1, 5, always(), up, back(3, variable(1))), result), ends(w(1, 0), 3)},
		{list(loop(1, 5, always(), up, choose(3, less(num(1), variable(1)), list(back(4, num(7))), nil)), result), ends(w(7, 0), 7)},
		{list(loop(1, 5, always(), up, throw(3, 6)), result), throws(6, 3)},
	} {
		runs(t, program(c.l...), w(5, 4), nil, c.want)
	}
}

// P8.1: SThrow and STry.
func TestExceptions(t *testing.T) {
	sum := add(variable(1), variable(2))
	for _, c := range []struct {
		l    []api.Stmt
		want api.Run
	}{
		{list(throw(1, 9), back(2, num(1))), throws(9, 1)},
		{list(throw(1, 31)), throws(31, 1)},
		{list(try(1, 2, list(set(2, 1, num(8)), throw(3, 5), set(4, 1, num(9))), list(set(5, 1, add(variable(1), num(1))))), back(6, sum)), ends(w(14, 0), 5)},
		{list(try(1, 2, list(set(2, 1, num(8))), list(set(5, 1, num(9)))), back(6, sum)), ends(w(8, 0), 3)},
		{list(set(1, 2, variable(0)), try(2, 2, list(throw(3, 5)), nil), back(6, variable(2))), ends(w(5, 0), 4)},
		{list(set(1, 2, num(3)), try(2, 2, list(back(3, variable(2))), list(back(4, num(4)))), back(5, num(5))), ends(w(3, 0), 3)},
		{list(try(1, 2, list(throw(2, 5)), list(back(3, variable(2)))), back(4, num(4))), ends(w(5, 0), 3)},
		{list(try(1, 2, list(throw(2, 5)), list(throw(3, 6))), back(4, num(4))), throws(6, 3)},
		{list(try(1, 1, list(try(2, 2, list(throw(3, 5)), list(throw(4, 6)))), list(back(5, expr(api.EMul, sum, num(1)))))), ends(w(11, 0), 5)},
		{list(try(1, 1, list(try(2, 2, list(throw(3, 5)), nil)), list(set(4, 3, num(1)))), back(5, sum)), ends(w(5, 0), 4)},
		{list(try(1, 1, list(loop(2, 4, always(), choose(3, always(), list(throw(4, 1)), nil))), nil), back(5, variable(1))), ends(w(1, 0), 5)},
		{list(try(1, 1, list(try(2, 2, nil, list(throw(3, 5))), throw(4, 7)), nil), back(5, sum)), ends(w(7, 0), 4)},
		{list(try(1, 1, list(assert(2, never())), list(set(3, 1, num(1))))), fails(2, api.KAssert, 2)}, // failures are no exceptions
		{list(try(1, 1, list(st(2, api.SRead, 1, 0, none())), list(set(3, 1, num(1))))), waits(event(api.VRead, 2, 0, w(0, 0)), 2)},
	} {
		runs(t, program(c.l...), w(0, 1), nil, c.want)
	}
}

// P8.1: SLock and SUnlock.
func TestLocks(t *testing.T) {
	lock, unlock := func(site, m int) api.Stmt { return by(site, api.SLock, m) }, func(site, m int) api.Stmt { return by(site, api.SUnlock, m) }
	took, gave := func(site, m int) api.Event { return event(api.VLock, site, m, w(0, 0)) }, func(site, m int) api.Event { return event(api.VUnlock, site, m, w(0, 0)) }
	for _, c := range []struct {
		l    []api.Stmt
		n    int
		want api.Run
	}{
		{list(lock(1, 7), unlock(2, 7)), 2, ends(w(0, 0), 2, took(1, 7), gave(2, 7))},
		{list(lock(1, 1), unlock(2, 1), lock(3, 1), unlock(4, 1)), 9, ends(w(0, 0), 4, took(1, 1), gave(2, 1), took(3, 1), gave(4, 1))},
		{list(lock(1, 0), lock(2, 1), unlock(3, 0), unlock(4, 1)), 4, ends(w(0, 0), 4, took(1, 0), took(2, 1), gave(3, 0), gave(4, 1))},
		{list(lock(1, 1), lock(2, 1)), 2, fails(2, api.KRelock, 2, took(1, 1))},
		{list(unlock(1, 1)), 2, fails(1, api.KUnlock, 1)},
		{list(lock(1, 1), unlock(2, 0)), 2, fails(2, api.KUnlock, 2, took(1, 1))},
		{list(lock(1, 1), unlock(2, 1), unlock(3, 1)), 3, fails(3, api.KUnlock, 3, took(1, 1), gave(2, 1))},
		{list(lock(1, 1)), 1, fails(end, api.KHeld, 1, took(1, 1))},
		{list(lock(1, 1)), 0, waits(took(1, 1), 1)},
		{list(lock(1, 1), unlock(2, 1)), 1, waits(gave(2, 1), 2, took(1, 1))},
	} {
		runs(t, program(c.l...), w(0, 0), answers(c.n), c.want)
	}
}

// P8.1: SAssert and SUse.
func TestAssertAndUse(t *testing.T) {
	p := program(assert(1, less(variable(0), num(3))), back(2, num(1)))
	runs(t, p, w(2, 0), nil, ends(w(1, 0), 2))
	runs(t, p, w(3, 0), nil, fails(1, api.KAssert, 1))
	e := event(api.VUse, 1, 15, w(0, 0))
	runs(t, program(by(1, api.SUse, 15)), w(0, 0), []api.Answer{{W: w(3, 3), Throw: 3}}, ends(w(0, 0), 1, e))
	runs(t, program(by(1, api.SUse, 15)), w(0, 0), nil, waits(e, 1))
}

// P8.1: the end of an activation: what is checked, in which order, and for exceptions, too.
func TestEnds(t *testing.T) {
	create, lock, one := by(1, api.SNew, 2), by(2, api.SLock, 3), set(3, 1, num(1))
	took := event(api.VLock, 2, 3, w(0, 0))
	for _, c := range []struct {
		last []api.Stmt
		want api.Run
	}{
		{nil, ends(w(0, 0), 2)}, {list(throw(4, 1)), throws(1, 3)}, {list(back(4, num(1))), ends(w(1, 0), 3)},
	} {
		n := len(c.last)
		run := func(budget int, l []api.Stmt, want api.Run) {
			t.Helper()
			p := program(append(l, c.last...)...)
			p.Defs[0].Budget = budget
			runs(t, p, w(0, 0), answers(1), want)
		}
		run(1, list(create, lock, one), fails(end, api.KLeak, 3+n, took))
		run(1, list(lock, one), fails(end, api.KHeld, 2+n, took))
		run(9, list(create, one), fails(end, api.KLeak, 2+n))
		run(9, list(lock, one), fails(end, api.KHeld, 2+n, took))
		run(1, list(one, set(5, 1, num(1))), fails(end, api.KCost, 2+n))
		run(1+n, list(one, set(5, 1, num(1))), fails(end, api.KCost, 2+n))
		run(2+n, list(one, set(5, 1, num(1))), c.want)
	}
}
