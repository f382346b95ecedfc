package encode

import (
	"math"

	"parole/api"
)

// A rest is the words that have not been read, as bytes.
type rest []byte

// A reader reads values from its rest. It panics at the first word that does not fit, and where a word is missing.
type reader struct{ rest }

func need(right bool) {
	if !right {
		panic(api.ErrForm)
	}
}

func (l *rest) word() int {
	need(len(*l) >= wordLen)
	n := uint64(0)
	for i := range wordLen {
		n |= uint64((*l)[i]) << (8 * i)
	}
	*l = (*l)[wordLen:]
	return int(n)
}

func (l *rest) letter() byte {
	n := l.word()
	need(0 <= n && n <= math.MaxUint8)
	return byte(n)
}

func (l *rest) mark(want int) { need(l.word() == want) }

// readList makes no memory ahead of its elements, as a wrong length can be of any size.
func readList[T any](r *reader, read func() T) []T {
	n := r.word()
	need(n >= 0)
	var l []T
	for range n {
		l = append(l, read())
	}
	return l
}

func (r *reader) text() string { return string(readList(r, r.letter)) }

func (r *reader) expr() api.Expr {
	return api.Expr{Op: r.word(), N: r.word(), V: r.word(), A: readList(r, r.expr)}
}

func (r *reader) cond() api.Cond {
	return api.Cond{Op: r.word(), A: readList(r, r.expr), C: readList(r, r.cond)}
}

func (r *reader) stmt() api.Stmt {
	return api.Stmt{
		Site: r.word(), Op: r.word(), N: r.word(), M: r.word(), V: r.word(),
		X: r.expr(), Y: r.expr(), C: r.cond(),
		Args: readList(r, r.expr), Ptrs: readList(r, r.word),
		Body: readList(r, r.stmt), Else: readList(r, r.stmt),
	}
}

func (r *reader) rangeOf() api.Range {
	return api.Range{Lo: r.word(), Hi: r.word(), Mask: r.word()}
}

func (r *reader) array() api.Array { return api.Array{Len: r.word(), Of: r.word()} }

func (r *reader) def() api.Def {
	r.mark(defMark)
	return api.Def{
		Id: r.word(), Site: r.word(), Name: r.text(), Firm: r.word(), Part: r.word(),
		Params: readList(r, r.rangeOf), Given: readList(r, r.rangeOf),
		Vars: r.word(), Refs: r.word(), Arrays: readList(r, r.array),
		Budget: r.word(), Body: readList(r, r.stmt),
	}
}

func (r *reader) queue() api.Queue { return api.Queue{Cap: r.word(), R: r.rangeOf()} }

func (r *reader) decl() api.Decl {
	return api.Decl{
		Globals: readList(r, r.rangeOf), Classes: readList(r, r.rangeOf),
		Queues: readList(r, r.queue), Sinks: readList(r, r.word),
		Locks: r.word(), Parts: r.word(), Firms: r.word(),
	}
}

func (r *reader) head() api.Head {
	return api.Head{
		Id: r.word(), Firm: r.word(), Part: r.word(),
		Params: readList(r, r.rangeOf), Given: readList(r, r.rangeOf),
	}
}

func (r *reader) program() api.Program {
	r.mark(programMark)
	return api.Program{
		D: r.decl(), Heads: readList(r, r.head), Defs: readList(r, r.def), Threads: readList(r, r.word),
	}
}
