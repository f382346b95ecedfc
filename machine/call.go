package machine

import (
	"slices"

	"parole/api"
	"parole/shape"
)

func (a *activation) call(s api.Stmt) {
	args, given := a.pass(s)
	e := a.event(api.VCall, s)
	e.Args = slices.Concat(args, given)
	w, number := a.outcome(e, args, given)
	a.show(api.Event{Kind: api.VReturn, Def: s.M, Site: s.Site, N: s.M, W: w, Throw: number})
	if number != 0 {
		panic(thrown(number))
	}
	if s.N != -1 {
		a.assign(s.N, w)
	}
}

// pass returns the words of the arguments, and the fields of the records that are given away.
func (a *activation) pass(s api.Stmt) (args, given []api.Word) {
	h, _ := shape.HeadOf(a.p, s.M)
	a.check(a.isLoaded(h.Part), s.Site, api.KPart)
	for i, x := range s.Args {
		w := a.word(x)
		a.check(isIn(w, h.Params[i]), s.Site, api.KPre)
		args = append(args, w)
	}
	for i, n := range s.Ptrs {
		w := a.lose(n, s.Site)
		a.check(isIn(w, h.Given[i]), s.Site, api.KPre)
		given = append(given, w)
	}
	return args, given
}

// outcome returns the result of a call, or the number of its exception: those of an activation, or those of the answer.
func (a *activation) outcome(e api.Event, args, given []api.Word) (api.Word, int) {
	if d, open := shape.Find(a.p, e.N); open {
		a.show(e)
		return a.enter(d, e.Site, args, given)
	}
	x := a.answer(e)
	a.show(e)
	if x.Throw != 0 {
		return api.Word{}, x.Throw
	}
	return x.W, 0
}

// enter leaves the site of the call in Calls if the run ends within the activation.
func (a *activation) enter(d api.Def, site int, args, given []api.Word) (api.Word, int) {
	outer := a.out.Calls
	a.out.Calls = append(outer, site)
	w, number := a.activate(d, args, given).live()
	a.out.Calls = outer
	return w, number
}
