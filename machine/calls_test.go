package machine_test

import (
	"testing"

	"parole/api"
)

const (
	second    = 8
	secondEnd = 89
	third     = 9
	thirdEnd  = 79
)

// callee is a definition in part 2, with two parameters and two given records, which it gives back.
func callee(body ...api.Stmt) api.Def {
	return api.Def{
		Id: second, Site: secondEnd, Name: "b", Part: 2, Params: []api.Range{{Hi: 5, Mask: 1}, {Lo: -4, Hi: -2, Mask: 4}}, Given: []api.Range{{Lo: 0, Hi: 3, Mask: 2}, {Lo: 1, Hi: 9}},
		Vars: 3, Refs: 3, Arrays: []api.Array{{Len: 3, Of: 1}}, Budget: 9,
		Body: append(list(by(80, api.SFree, 0), by(81, api.SFree, 1)), body...),
	}
}

// plain is a definition without parameters, in the part of its caller.
func plain(body ...api.Stmt) api.Def {
	return api.Def{Id: second, Site: secondEnd, Name: "b", Part: 1, Vars: 2, Refs: 1, Budget: api.MaxFuel, Body: body}
}

// passing loads part 2, and calls the second definition with -3, and with records with 2 and 7; the last sites are free.
func passing(arg api.Expr) []api.Stmt {
	return list(by(1, api.SUse, 2), by(2, api.SNew, 1), by(3, api.SNew, 0), st(4, api.SPut, 1, 0, num(2)), st(5, api.SPut, 0, 0, num(7)), call(6, 1, second, exprs(arg, num(-3)), 1, 0))
}

func used() api.Event { return event(api.VUse, 1, 2, w(0, 0)) }

func entered(arg api.Word) api.Event { return called(6, second, arg, w(-3, 0), w(2, 0), w(7, 0)) }

// P8.1: a call of an open definition.
func TestCall(t *testing.T) {
	for _, c := range []struct {
		body  []api.Stmt
		cost  int
		value api.Word
	}{
		{nil, 8, w(0, 0)},
		{list(back(82, variable(0))), 9, w(4, 1)}, {list(back(82, variable(1))), 9, w(-3, 0)}, {list(back(82, variable(2))), 9, w(0, 0)},
		{list(back(82, length(0))), 9, w(3, 0)},
		{list(set(82, 2, num(6)), back(83, variable(2)), set(84, 2, num(6))), 10, w(6, 0)},
		{list(try(82, 2, list(throw(83, 6)), nil), back(84, variable(2))), 11, w(6, 0)},
	} {
		p := with(program(append(passing(variable(0)), back(7, variable(1)))...), callee(c.body...))
		runs(t, p, w(4, 1), answers(1), ends(c.value, c.cost+1, used(), entered(w(4, 1)), returned(6, second, c.value, 0)))
		p.Defs[0].Body[5].N = -1
		runs(t, p, w(4, 1), answers(1), ends(w(0, 0), c.cost+1, used(), entered(w(4, 1)), returned(6, second, c.value, 0)))
	}
}

// P8.1: the callee has its own variables, references, arrays and locks; the first references have the given records.
func TestCalleeIsApart(t *testing.T) {
	body := list(st(80, api.SGet, 2, 0, none()), st(81, api.SGet, 1, 1, none()), by(82, api.SFree, 0), by(83, api.SFree, 1), st(84, api.SLoad, 1, 0, num(0)), back(85, add(variable(1), variable(2))))
	d := callee()
	d.Params = nil
	d.Vars, d.Body, d.Arrays = 3, body, []api.Array{{Len: 1}}
	caller := passing(none())
	caller[5].Args = nil
	caller = append(list(store(20, 0, num(0), num(5)), set(21, 2, num(8))), append(caller, by(22, api.SNew, 0), by(23, api.SNew, 1), by(24, api.SFree, 0), by(25, api.SFree, 1), back(26, add(variable(1), variable(2))))...)
	e := called(6, second, w(2, 0), w(7, 0))
	runs(t, with(program(caller...), d), w(4, 1), answers(1), ends(w(10, 0), 19, used(), e, returned(6, second, w(2, 0), 0)))
	lock, took := by(1, api.SLock, 1), event(api.VLock, 1, 1, w(0, 0))
	p := with(program(lock, call(2, -1, second, nil)), plain(by(80, api.SUnlock, 1)))
	runs(t, p, w(0, 0), answers(2), within(fails(80, api.KUnlock, 3, took, called(2, second)), 2))
	p = with(program(lock, call(2, -1, second, nil)), plain(by(80, api.SLock, 1)))
	runs(t, p, w(0, 0), answers(2), within(fails(80, api.KRelock, 3, took, called(2, second)), 2))
}

// P8.1: what a call needs, on both sides, and in which order: the part, the arguments one after the other, the references one after the other.
func TestCallFails(t *testing.T) {
	for arg, well := range map[api.Word]bool{w(0, 0): true, w(5, 1): true, w(-1, 0): false, w(6, 1): false, w(3, 2): false, w(3, 3): false} {
		p := with(program(passing(variable(0))...), callee())
		want := fails(6, api.KPre, 6, used())
		if well {
			want = ends(w(0, 0), 8, used(), entered(arg), returned(6, second, w(0, 0), 0))
		}
		runs(t, p, arg, answers(1), want)
	}
	change := func(kind int, how func(l []api.Stmt) []api.Stmt) {
		t.Helper()
		l := how(passing(variable(0)))
		want := fails(6, kind, len(l))
		if l[0].Site == 1 {
			want = fails(6, kind, len(l), used())
		}
		runs(t, with(program(l...), callee()), w(2, 1), answers(1), want)
		runs(t, closed(with(program(l...), callee()), second), w(2, 1), answers(2), want)
	}
	change(api.KPart, func(l []api.Stmt) []api.Stmt { return l[1:] })
	change(api.KPart, func(l []api.Stmt) []api.Stmt { l[5].Args[0] = num(9); return l[1:] })
	change(api.KPre, func(l []api.Stmt) []api.Stmt { l[5].Args[1] = num(-1); return l })
	change(api.KPre, func(l []api.Stmt) []api.Stmt { l[5].Args[1] = num(-5); return l })
	change(api.KPre, func(l []api.Stmt) []api.Stmt {
		l[5].Args[1] = add(expr(api.EMul, variable(0), num(0)), num(-3))
		return l
	}) // a class
	change(api.KPre, func(l []api.Stmt) []api.Stmt { l[5].Args[1], l[5].Ptrs = num(-1), []int{2, 0}; return l })
	change(api.KUse, func(l []api.Stmt) []api.Stmt { l[5].Ptrs = []int{2, 0}; return l })
	change(api.KUse, func(l []api.Stmt) []api.Stmt { l[5].Ptrs = []int{1, 2}; return l })
	change(api.KUse, func(l []api.Stmt) []api.Stmt { l[5].Ptrs = []int{1, 1}; return l })
	change(api.KUse, func(l []api.Stmt) []api.Stmt { l[4].X, l[5].Ptrs = num(0), []int{1, 2}; return l })
	change(api.KPre, func(l []api.Stmt) []api.Stmt { l[3].X = num(4); return l })
	change(api.KPre, func(l []api.Stmt) []api.Stmt { l[3].X = num(-1); return l })
	change(api.KPre, func(l []api.Stmt) []api.Stmt { l[3].X = variable(0); return l }) // a class
	change(api.KPre, func(l []api.Stmt) []api.Stmt { l[4].X = num(0); return l })
	change(api.KPre, func(l []api.Stmt) []api.Stmt { l[3].X, l[5].Ptrs = num(4), []int{1, 2}; return l }) // ahead of the next reference
}

// P8.1: parts 0 and that of the definition are loaded at first, and what a callee loads stays loaded.
func TestParts(t *testing.T) {
	for part := range 16 {
		d := plain()
		d.Part = part
		p := with(program(call(1, -1, second, nil)), d)
		want := fails(1, api.KPart, 1)
		if part < 2 {
			want = ends(w(0, 0), 1, called(1, second), returned(1, second, w(0, 0), 0))
		}
		runs(t, p, w(0, 0), answers(1), want)
	}
	user, other := plain(by(80, api.SUse, 5)), plain()
	other.Id, other.Site, other.Part = third, thirdEnd, 5
	p := with(with(program(call(1, -1, second, nil), call(2, -1, third, nil)), user), other)
	e := event(api.VUse, 80, 5, w(0, 0))
	e.Def = second
	runs(t, p, w(0, 0), answers(1), ends(w(0, 0), 3, called(1, second), e, returned(1, second, w(0, 0), 0), called(2, third), returned(2, third, w(0, 0), 0)))
	runs(t, with(with(program(by(3, api.SUse, 4), call(2, -1, third, nil)), user), other), w(0, 0), answers(1), fails(2, api.KPart, 2, event(api.VUse, 3, 4, w(0, 0))))
}

// P8.1: an exception goes on at the call, and ends the activations on its way, which are checked.
func TestExceptionsOfCalls(t *testing.T) {
	body := list(set(20, 1, num(6)), call(1, 1, second, nil), set(21, 1, num(7)))
	into, out := called(1, second), returned(1, second, w(0, 0), 5)
	runs(t, with(program(body...), plain(throw(80, 5))), w(0, 0), nil, throws(5, 3, into, out))
	caught := list(try(30, 2, body, list(set(31, 3, num(1)))), back(32, add(variable(1), expr(api.EMul, variable(2), num(10)))))
	runs(t, with(program(caught...), plain(throw(80, 5))), w(0, 0), nil, ends(w(56, 0), 6, into, out))
	runs(t, with(program(caught...), plain(by(80, api.SNew, 0), throw(81, 5))), w(0, 0), nil, within(fails(secondEnd, api.KLeak, 5, into), 1))
	runs(t, with(program(caught...), plain(by(80, api.SLock, 0), throw(81, 5))), w(0, 0), answers(1), within(fails(secondEnd, api.KHeld, 5, into, api.Event{Kind: api.VLock, Def: second, Site: 80}), 1))
	d := plain(set(80, 0, num(1)), throw(81, 5))
	d.Budget = 1
	runs(t, with(program(caught...), d), w(0, 0), nil, within(fails(secondEnd, api.KCost, 5, into), 1))
	again := plain(try(80, 0, list(throw(81, 5)), list(throw(82, 6))))
	runs(t, with(program(caught...), again), w(0, 0), nil, ends(w(66, 0), 8, into, returned(1, second, w(0, 0), 6)))
	result := plain(try(80, 0, list(throw(81, 5)), list(back(82, variable(0)))))
	runs(t, with(program(caught...), result), w(0, 0), nil, ends(w(7, 0), 8, into, returned(1, second, w(5, 0), 0)))
}

// chain returns a program in which the first definition calls the second one, and this one the third one, with this Body.
func chain(body ...api.Stmt) api.Program {
	d := plain(body...)
	d.Id, d.Site = third, thirdEnd
	return with(with(program(call(1, 1, second, nil), back(2, variable(1))), plain(set(80, 0, num(3)), call(81, 1, third, nil), back(82, add(variable(0), variable(1))))), d)
}

// P8.1: calls within calls: costs, events and Calls.
func TestNestedCalls(t *testing.T) {
	inner := called(81, third)
	inner.Def = second
	to := []api.Event{called(1, second), inner}
	read := api.Event{Kind: api.VRead, Def: third, Site: 70, N: 1}
	runs(t, chain(st(70, api.SRead, 1, 1, none())), w(0, 0), nil, within(waits(read, 4, to...), 1, 81))
	runs(t, chain(assert(70, never())), w(0, 0), nil, within(fails(70, api.KAssert, 4, to...), 1, 81))
	runs(t, chain(by(70, api.SNew, 0)), w(0, 0), nil, within(fails(thirdEnd, api.KLeak, 4, to...), 1, 81))
	whole := append(to, returned(81, third, w(4, 0), 0), returned(1, second, w(7, 0), 0))
	runs(t, chain(back(70, num(4))), w(0, 0), nil, ends(w(7, 0), 6, whole...))
	whole = append(to, returned(81, third, w(0, 0), 3), returned(1, second, w(0, 0), 3))
	runs(t, chain(throw(70, 3)), w(0, 0), nil, throws(3, 4, whole...))
	p := chain(back(70, num(4)))
	for budgets, want := range map[[3]int]api.Run{
		{6, 4, 1}: ends(w(7, 0), 6, append(to, returned(81, third, w(4, 0), 0), returned(1, second, w(7, 0), 0))...),
		{5, 4, 1}: fails(end, api.KCost, 6, append(to, returned(81, third, w(4, 0), 0), returned(1, second, w(7, 0), 0))...),
		{9, 3, 1}: within(fails(secondEnd, api.KCost, 5, append(to, returned(81, third, w(4, 0), 0))...), 1),
	} {
		for i := range 3 {
			p.Defs[i].Budget = budgets[i]
		}
		runs(t, p, w(0, 0), nil, want)
	}
	p = with(with(program(call(1, 1, second, nil), assert(2, never())), plain(call(80, -1, third, nil))), func() api.Def {
		d := plain()
		d.Id, d.Site = third, thirdEnd
		return d
	}())
	e := called(80, third)
	e.Def = second
	runs(t, p, w(0, 0), nil, fails(2, api.KAssert, 3, called(1, second), e, returned(80, third, w(0, 0), 0), returned(1, second, w(0, 0), 0)))
}

// P8.1: locks of all callers count, as long as these are not over.
func TestLocksOfCallers(t *testing.T) {
	p := chain(by(70, api.SLock, 2))
	p.Defs[0].Body = append(list(by(3, api.SLock, 2)), p.Defs[0].Body...)
	inner := called(81, third)
	inner.Def = second
	runs(t, p, w(0, 0), answers(2), within(fails(70, api.KRelock, 5, event(api.VLock, 3, 2, w(0, 0)), called(1, second), inner), 1, 81))
	both := list(by(80, api.SLock, 2), by(81, api.SUnlock, 2))
	p = with(program(call(1, -1, second, nil), by(2, api.SLock, 2), by(3, api.SUnlock, 2)), plain(both...))
	took, gave := event(api.VLock, 80, 2, w(0, 0)), event(api.VUnlock, 81, 2, w(0, 0))
	took.Def, gave.Def = second, second
	runs(t, p, w(0, 0), answers(4), ends(w(0, 0), 5, called(1, second), took, gave, returned(1, second, w(0, 0), 0), event(api.VLock, 2, 2, w(0, 0)), event(api.VUnlock, 3, 2, w(0, 0))))
}

// P8.1: a call of a closed definition is answered with its result, or with an exception.
func TestClosedCall(t *testing.T) {
	body := append(passing(variable(0)), back(7, variable(1)))
	p := closed(with(program(body...), callee()), second)
	into := entered(w(4, 1))
	run := func(p api.Program, l []api.Answer, want api.Run) {
		t.Helper()
		want.Used = len(l)
		runs(t, p, w(4, 1), l, want)
	}
	run(p, answers(1), waits(into, 6, used()))
	for _, x := range []api.Word{w(0, 0), w(7, 255), w(api.MinInt, 9)} {
		run(p, []api.Answer{{}, {W: x}}, ends(x, 7, used(), into, returned(6, second, x, 0)))
		run(p, []api.Answer{{}, {W: x, Throw: 31}}, throws(31, 6, used(), into, returned(6, second, w(0, 0), 31)))
	}
	body = list(set(20, 1, num(3)), try(21, 2, body[:6], list(set(22, 2, add(variable(1), variable(2))))), back(23, variable(2)))
	p = closed(with(program(body...), callee()), second)
	run(p, []api.Answer{{}, {W: w(7, 7), Throw: 9}}, ends(w(12, 0), 10, used(), into, returned(6, second, w(0, 0), 9)))
	body[1].Body[5].N = -1
	run(closed(with(program(append(body[1].Body, back(30, variable(1)))...), callee()), second), []api.Answer{{}, answer(7, 7)}, ends(w(0, 0), 7, used(), into, returned(6, second, w(7, 7), 0)))
	gone := append(passing(variable(0)), by(30, api.SFree, 1))
	run(closed(with(program(gone...), callee()), second), answers(2), fails(30, api.KUse, 7, used(), into, returned(6, second, w(0, 0), 0)))
}

// P8.1: a given record is the callee's, whether the call ends with a result or an exception.
func TestGivenAway(t *testing.T) {
	for _, last := range []api.Stmt{back(82, num(0)), throw(82, 1)} {
		body := list(try(20, 2, passing(variable(0)), nil), by(21, api.SNew, 1), by(22, api.SFree, 1), by(23, api.SFree, 0))
		r := fails(23, api.KUse, 13, used(), entered(w(4, 1)), returned(6, second, w(0, 0), last.V))
		runs(t, with(program(body...), callee(last)), w(4, 1), answers(1), r)
	}
}
