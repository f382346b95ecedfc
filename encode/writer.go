package encode

import "parole/api"

// A writer collects words. It panics at the first one above its limit, so that nothing huge is written in vain.
type writer struct {
	words []int
	limit int
}

func (w *writer) word(n int) {
	if len(w.words) == w.limit {
		panic(api.ErrBig)
	}
	w.words = append(w.words, n)
}

func (w *writer) add(l ...int) {
	for _, n := range l {
		w.word(n)
	}
}

func (w *writer) text(s string) {
	w.word(len(s))
	for i := range len(s) {
		w.word(int(s[i]))
	}
}

func writeList[T any](w *writer, l []T, write func(T)) {
	w.word(len(l))
	for _, x := range l {
		write(x)
	}
}

func (w *writer) expr(x api.Expr) {
	w.add(x.Op, x.N, x.V)
	writeList(w, x.A, w.expr)
}

func (w *writer) cond(c api.Cond) {
	w.word(c.Op)
	writeList(w, c.A, w.expr)
	writeList(w, c.C, w.cond)
}

func (w *writer) stmt(s api.Stmt) {
	w.add(s.Site, s.Op, s.N, s.M, s.V)
	w.expr(s.X)
	w.expr(s.Y)
	w.cond(s.C)
	writeList(w, s.Args, w.expr)
	writeList(w, s.Ptrs, w.word)
	writeList(w, s.Body, w.stmt)
	writeList(w, s.Else, w.stmt)
}

func (w *writer) rangeOf(r api.Range) { w.add(r.Lo, r.Hi, r.Mask) }

func (w *writer) array(a api.Array) { w.add(a.Len, a.Of) }

func (w *writer) def(d api.Def) {
	w.add(defMark, d.Id, d.Site)
	w.text(d.Name)
	w.add(d.Firm, d.Part)
	writeList(w, d.Params, w.rangeOf)
	writeList(w, d.Given, w.rangeOf)
	w.add(d.Vars, d.Refs)
	writeList(w, d.Arrays, w.array)
	w.word(d.Budget)
	writeList(w, d.Body, w.stmt)
}

func (w *writer) queue(q api.Queue) {
	w.word(q.Cap)
	w.rangeOf(q.R)
}

func (w *writer) decl(d api.Decl) {
	writeList(w, d.Globals, w.rangeOf)
	writeList(w, d.Classes, w.rangeOf)
	writeList(w, d.Queues, w.queue)
	writeList(w, d.Sinks, w.word)
	w.add(d.Locks, d.Parts, d.Firms)
}

func (w *writer) head(h api.Head) {
	w.add(h.Id, h.Firm, h.Part)
	writeList(w, h.Params, w.rangeOf)
	writeList(w, h.Given, w.rangeOf)
}

func (w *writer) program(p api.Program) {
	w.word(programMark)
	w.decl(p.D)
	writeList(w, p.Heads, w.head)
	writeList(w, p.Defs, w.def)
	writeList(w, p.Threads, w.word)
}

// bytes returns the words, each with its least significant byte first.
func (w *writer) bytes() []byte {
	b := make([]byte, 0, len(w.words)*wordLen)
	for _, n := range w.words {
		for i := range wordLen {
			b = append(b, byte(n>>(8*i)))
		}
	}
	return b
}
