package machine

import "parole/api"

// event returns a visible operation of this definition; what it is about is in M of all statements.
func (a *activation) event(kind int, s api.Stmt) api.Event {
	return api.Event{Kind: kind, Def: a.d.Id, Site: s.Site, N: s.M}
}

// input does an operation whose answer becomes the word of a variable.
func (a *activation) input(kind int, s api.Stmt) {
	e := a.event(kind, s)
	e.W = a.answer(e).W
	a.show(e)
	a.assign(s.N, e.W)
}

// output does an operation whose answer does not matter.
func (a *activation) output(kind int, s api.Stmt, w api.Word) {
	e := a.event(kind, s)
	e.W = w
	a.answer(e)
	a.show(e)
}

func (a *activation) read(s api.Stmt) { a.input(api.VRead, s) }

func (a *activation) receive(s api.Stmt) { a.input(api.VRecv, s) }

func (a *activation) source(s api.Stmt) { a.input(api.VSource, s) }

func (a *activation) write(s api.Stmt) {
	w := a.word(s.X)
	a.check(isIn(w, a.p.D.Globals[s.M]), s.Site, api.KRange)
	a.output(api.VWrite, s, w)
}

func (a *activation) send(s api.Stmt) {
	w := a.word(s.X)
	a.check(isIn(w, a.p.D.Queues[s.M].R), s.Site, api.KRange)
	a.output(api.VSend, s, w)
}

func (a *activation) sink(s api.Stmt) {
	w := a.word(s.X)
	a.check(areWithin(w.Mask, a.p.D.Sinks[s.M]), s.Site, api.KTaint)
	a.output(api.VSink, s, w)
}

// lock fails for a lock that a caller has taken, too; so each lock is taken by one activation at most.
func (a *activation) lock(s api.Stmt) {
	bit := 1 << s.M
	a.check(a.held&bit == 0, s.Site, api.KRelock)
	a.output(api.VLock, s, api.Word{})
	a.held |= bit
	a.locks |= bit
}

func (a *activation) unlock(s api.Stmt) {
	bit := 1 << s.M
	a.check(a.locks&bit != 0, s.Site, api.KUnlock)
	a.output(api.VUnlock, s, api.Word{})
	a.held &^= bit
	a.locks &^= bit
}

func (a *activation) use(s api.Stmt) {
	a.output(api.VUse, s, api.Word{})
	a.addPart(s.M)
}
