package encode_test

import (
	"bytes"
	"slices"
	"testing"

	"parole/api"
	"parole/digest"
	"parole/encode"
)

// atLimit expects that x can be written with as many words as the limit says, and not with one more; grow adds words to it.
func atLimit[T any](t *testing.T, f form[T], x T, grow func(x T, n int) T) {
	t.Helper()
	least := len(wordsOf(x))
	full := grow(x, maxWords-least)
	b, e := f.write(full)
	if e != api.OK || !bytes.Equal(b, bytesOf(wordsOf(full))) {
		t.Errorf("100000 words: %d bytes, %d", len(b), e)
		return
	}
	reads(t, f, b, full)
	for _, n := range []int{1, 2, 5000} {
		if b, e := f.write(grow(x, maxWords-least+n)); e != api.ErrBig || b != nil {
			t.Errorf("%d words: %d bytes, %d", maxWords+n, len(b), e)
		}
	}
}

// P7.1, G1: wherever the words are, ahead of those that are too many.
func TestDefLimits(t *testing.T) {
	name := func(d api.Def, n int) api.Def { d.Name = string(make([]byte, n)); return d }
	exprs, stmts := make([]api.Expr, 20000), make([]api.Stmt, 4000)
	for _, d := range []api.Def{
		{}, {Params: make([]api.Range, 30000)}, {Given: make([]api.Range, 30000)}, {Arrays: make([]api.Array, 40000)}, {Body: stmts},
		{Body: []api.Stmt{{X: api.Expr{A: exprs}}}}, {Body: []api.Stmt{{Y: api.Expr{A: exprs}}}}, {Body: []api.Stmt{{Args: exprs}}}, {Body: []api.Stmt{{Ptrs: make([]int, 80000)}}},
		{Body: []api.Stmt{{C: api.Cond{A: exprs}}}}, {Body: []api.Stmt{{C: api.Cond{C: make([]api.Cond, 30000)}}}},
		{Body: []api.Stmt{{Body: stmts}}}, {Body: []api.Stmt{{Else: stmts}}},
	} {
		atLimit(t, defs(), d, name)
	}
	atLimit(t, defs(), api.Def{Body: []api.Stmt{{}}}, func(d api.Def, n int) api.Def {
		d.Body = slices.Clone(d.Body)
		d.Body[0].Ptrs = make([]int, n)
		return d
	})
}

// P7.1, G1.
func TestProgramLimits(t *testing.T) {
	threads := func(p api.Program, n int) api.Program { p.Threads = make([]int, n); return p }
	ranges := make([]api.Range, 30000)
	for _, p := range []api.Program{
		{}, {D: api.Decl{Globals: ranges}}, {D: api.Decl{Classes: ranges}}, {D: api.Decl{Queues: make([]api.Queue, 20000)}}, {D: api.Decl{Sinks: make([]int, 80000)}},
		{Heads: make([]api.Head, 15000)}, {Heads: []api.Head{{Params: ranges}}}, {Heads: []api.Head{{Given: ranges}}},
		{Defs: make([]api.Def, 7000)}, {Defs: []api.Def{{Name: string(make([]byte, 50000))}, {Params: ranges[:10000]}}},
	} {
		atLimit(t, programs(), p, threads)
	}
	atLimit(t, programs(), api.Program{}, func(p api.Program, n int) api.Program { p.D.Sinks = make([]int, n); return p })
}

// P7.1, G2: too many bytes are too many, whatever they are; as many as may be are looked at.
func TestReadLimits(t *testing.T) {
	full := api.Def{Name: string(make([]byte, maxWords-13))}
	b := written(t, defs(), full)
	c := written(t, programs(), api.Program{Threads: make([]int, maxWords-11)})
	if len(b) != maxBytes || len(c) != maxBytes {
		t.Fatal(len(b), len(c))
	}
	for _, l := range [][]byte{b, c, make([]byte, maxBytes), bytes.Repeat([]byte{255}, maxBytes)} {
		for _, n := range []int{1, 7, 8, 9, maxBytes} {
			more := append(slices.Clone(l), make([]byte, n)...)
			refuses(t, defs(), more, api.ErrBig)
			refuses(t, programs(), more, api.ErrBig)
		}
	}
	for _, l := range [][]byte{c, make([]byte, maxBytes), b[:maxBytes-1], b[:maxBytes-8], c[:maxBytes-7]} {
		refuses(t, defs(), l, api.ErrForm)
	}
	for _, l := range [][]byte{b, make([]byte, maxBytes), c[:maxBytes-1], c[:maxBytes-8], b[:maxBytes-7]} {
		refuses(t, programs(), l, api.ErrForm)
	}
	reads(t, defs(), b, full)
}

// deep returns a definition with operands, or statements, so many levels deep.
func deep(levels, where int) api.Def {
	x, c, s := api.Expr{Op: 1}, api.Cond{Op: 1}, api.Stmt{Op: 1}
	for range levels {
		x, c = api.Expr{A: []api.Expr{x}}, api.Cond{C: []api.Cond{c}}
		if where == 2 {
			s = api.Stmt{Body: []api.Stmt{s}}
		} else {
			s = api.Stmt{Else: []api.Stmt{s}}
		}
	}
	return api.Def{Body: []api.Stmt{[]api.Stmt{{X: x}, {C: c}, s, s}[where]}}
}

// P1, P7.2: as deep as it can be.
func TestDeepIsRead(t *testing.T) {
	for where, levels := range []int{24990, 33320, 4997, 4997} {
		d := deep(levels, where)
		b := written(t, defs(), d)
		x, e := encode.ReadDef(b)
		again, _ := encode.Def(x)
		if e != api.OK || !bytes.Equal(b, again) {
			t.Errorf("%d: %d", where, e)
		}
		refuses(t, defs(), b[:len(b)-8], api.ErrForm)
	}
}

// P1, P7.1: what is too deep is too big, but has leaves.
func TestDeepIsTooBig(t *testing.T) {
	for where := range 4 {
		d := deep(65000, where)
		if b, e := encode.Def(d); e != api.ErrBig || b != nil {
			t.Errorf("%d: %d", where, e)
		}
		if b, e := encode.Program(api.Program{Defs: []api.Def{d}}); e != api.ErrBig || b != nil {
			t.Errorf("%d: %d", where, e)
		}
	}
	l := make([]int, 20+3*65000)
	for i := range 65000 {
		l[15+3*i] = 1 // of a condition 0, 0, 1, and then the next one
	}
	l[13+3*65000] = 1
	if got := encode.Leaves(deep(65000, 1))[1]; got != digest.Words(l) {
		t.Errorf("%d", got)
	}
}

// P1: the lengths that words tell are not believed, at any level.
func TestLengthsAreNotBelieved(t *testing.T) {
	for _, claim := range []int{1 << 62, 1<<63 - 1, 1 << 31, maxWords, 4000} {
		var stmts, exprs []int
		for len(stmts) < maxWords-100 {
			stmts = append(stmts, append(make([]int, 18), claim)...)
		}
		for len(exprs) < maxWords-100 {
			exprs = append(exprs, 0, 0, 0, claim)
		}
		start := append(make([]int, 12), claim)
		start[0] = 1
		for _, l := range [][]int{slices.Concat(start, stmts), slices.Concat(start, make([]int, 5), exprs), {1, 0, 0, claim}, {1, 0, 0, 0, 0, 0, claim, 1, 2, 3}} {
			refuses(t, defs(), bytesOf(l), api.ErrForm)
		}
		refuses(t, programs(), bytesOf([]int{2, claim}), api.ErrForm)
		refuses(t, programs(), bytesOf(append([]int{2, 0, 0, 0, 0, 0, 0, 0, 0, claim}, append(start, stmts...)...)), api.ErrForm)
	}
}
