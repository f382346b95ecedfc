package encode_test

import (
	"bytes"
	"reflect"
	"slices"
	"testing"

	"parole/api"
	"parole/digest"
	"parole/encode"
	"parole/merkle"
)

// P7.1: the examples of the chapter, in a definition without anything else.
func TestExamples(t *testing.T) {
	header := []int{1, 0, 0, 0, 0, 0, 0, 0, 0, 0, 0, 0}
	lock := []int{9, 16, 0, 2, 0, 0, 0, 0, 0, 0, 0, 0, 0, 0, 0, 0, 0, 0, 0, 0}
	five := []int{0, 0, 0, 0, 0, 1, 0, 5, 0, 0, 0, 0, 0, 0, 0, 0, 0, 0, 0, 0}
	d := api.Def{Body: []api.Stmt{{Site: 9, Op: api.SLock, M: 2}, {X: num(5)}}}
	if b, e := encode.Def(d); e != api.OK || !bytes.Equal(b, bytesOf(slices.Concat(header, []int{2}, lock, five))) {
		t.Errorf("%v %d", b, e)
	}
	if b, e := encode.Def(api.Def{}); e != api.OK || !bytes.Equal(b, bytesOf(append(header, 0))) {
		t.Errorf("%v %d", b, e)
	}
	if b, e := encode.Program(api.Program{}); e != api.OK || !bytes.Equal(b, bytesOf([]int{2, 0, 0, 0, 0, 0, 0, 0, 0, 0, 0})) {
		t.Errorf("%v %d", b, e)
	}
}

// P7.1: what each field is, and where it stands.
func TestEachField(t *testing.T) {
	x, y := api.Expr{Op: 11, N: 12, V: 13}, api.Expr{Op: 21, N: 22, V: 23, A: []api.Expr{{Op: 24}, {N: 25}}}
	inner := api.Stmt{Site: 50, Op: 51, N: 52, M: 53, V: 54}
	s := api.Stmt{
		Site: 31, Op: 32, N: 33, M: 34, V: 35, X: x, Y: y, C: api.Cond{Op: 36, A: []api.Expr{{Op: 37}}, C: []api.Cond{{Op: 38}}},
		Args: []api.Expr{{V: 39}}, Ptrs: []int{40, 41}, Body: []api.Stmt{inner, {Site: 55}}, Else: []api.Stmt{{Site: 56}},
	}
	bare := func(l ...int) []int { return append(l, make([]int, 20-len(l))...) }
	inStmt := slices.Concat(
		[]int{31, 32, 33, 34, 35}, []int{11, 12, 13, 0}, []int{21, 22, 23, 2, 24, 0, 0, 0, 0, 25, 0, 0},
		[]int{36, 1, 37, 0, 0, 0, 1, 38, 0, 0}, []int{1, 0, 0, 39, 0}, []int{2, 40, 41},
		[]int{2}, bare(50, 51, 52, 53, 54), bare(55), []int{1}, bare(56),
	)
	d := api.Def{
		Id: 2, Site: 3, Name: "a\xff\x00", Firm: 4, Part: 5, Params: []api.Range{{Lo: 6, Hi: 7, Mask: 8}}, Given: []api.Range{{Lo: -6, Hi: -7, Mask: -8}, {}},
		Vars: 9, Refs: 10, Arrays: []api.Array{{Len: 14, Of: 15}, {Len: 16}}, Budget: 17, Body: []api.Stmt{s},
	}
	inDef := slices.Concat(
		[]int{1, 2, 3, 3, 97, 255, 0, 4, 5, 1, 6, 7, 8, 2, -6, -7, -8, 0, 0, 0, 9, 10, 2, 14, 15, 16, 0, 17, 1}, inStmt,
	)
	if b := written(t, defs(), d); !bytes.Equal(b, bytesOf(inDef)) {
		t.Errorf("definition: %v", b)
	}
	reads(t, defs(), bytesOf(inDef), d)
	p := api.Program{
		D: api.Decl{
			Globals: []api.Range{{Lo: 61, Hi: 62, Mask: 63}}, Classes: []api.Range{{Lo: 64}, {Hi: 65}},
			Queues: []api.Queue{{Cap: 66, R: api.Range{Lo: 67, Hi: 68, Mask: 69}}}, Sinks: []int{70, 71, 72}, Locks: 73, Parts: 74, Firms: 75,
		},
		Heads: []api.Head{{Id: 81, Firm: 82, Part: 83, Params: []api.Range{{Lo: 84}}, Given: []api.Range{{Hi: 85}, {Mask: 86}}}, {Id: 87}},
		Defs:  []api.Def{d, {Id: 88}}, Threads: []int{91, 92},
	}
	inProgram := slices.Concat(
		[]int{2, 1, 61, 62, 63, 2, 64, 0, 0, 0, 65, 0, 1, 66, 67, 68, 69, 3, 70, 71, 72, 73, 74, 75},
		[]int{2, 81, 82, 83, 1, 84, 0, 0, 2, 0, 85, 0, 0, 0, 86, 87, 0, 0, 0, 0},
		[]int{2}, inDef, []int{1, 88, 0, 0, 0, 0, 0, 0, 0, 0, 0, 0, 0}, []int{2, 91, 92},
	)
	if b := written(t, programs(), p); !bytes.Equal(b, bytesOf(inProgram)) {
		t.Errorf("program: %v", b)
	}
	reads(t, programs(), bytesOf(inProgram), p)
}

// P7.1: words as bytes.
func TestNumbers(t *testing.T) {
	for _, c := range []struct {
		n    int
		want []byte
	}{
		{0, []byte{0, 0, 0, 0, 0, 0, 0, 0}}, {1, []byte{1, 0, 0, 0, 0, 0, 0, 0}}, {-1, []byte{255, 255, 255, 255, 255, 255, 255, 255}},
		{-2, []byte{254, 255, 255, 255, 255, 255, 255, 255}}, {258, []byte{2, 1, 0, 0, 0, 0, 0, 0}}, {-256, []byte{0, 255, 255, 255, 255, 255, 255, 255}},
		{0x0807060504030201, []byte{1, 2, 3, 4, 5, 6, 7, 8}}, {-1 << 63, []byte{0, 0, 0, 0, 0, 0, 0, 128}}, {1<<63 - 1, []byte{255, 255, 255, 255, 255, 255, 255, 127}},
		{api.MinInt, []byte{0, 0, 0, 128, 255, 255, 255, 255}}, {api.NoGap, []byte{0, 0, 0, 0, 0, 1, 0, 0}},
	} {
		d := api.Def{Id: c.n}
		b := written(t, defs(), d)
		if !bytes.Equal(b[8:16], c.want) {
			t.Errorf("%d: %v", c.n, b[8:16])
		}
		reads(t, defs(), b, d)
	}
}

func writesAsModel[T any](t *testing.T, f form[T], x T) {
	t.Helper()
	if b := written(t, f, x); !bytes.Equal(b, bytesOf(wordsOf(x))) {
		t.Errorf("%+v: %v", x, b)
	}
}

// P7.1, G1: against the chapter's lists.
func TestWriting(t *testing.T) {
	writesAsModel(t, defs(), numbered[api.Def](1000))
	writesAsModel(t, programs(), numbered[api.Program](1000))
	m := newMaker(1)
	for i := range 600 {
		writesAsModel(t, defs(), made[api.Def](m, i%4))
		writesAsModel(t, programs(), made[api.Program](m, i%4))
	}
}

func readsAsModel[T any](t *testing.T, f form[T], b []byte) bool {
	t.Helper()
	x, right := modelRead[T](b)
	if right {
		reads(t, f, b, x)
	} else {
		refuses(t, f, b, api.ErrForm)
	}
	return right
}

// P7.1, G2: bytes with changes at any place are read if, and only if, there is something with these bytes.
func TestReading(t *testing.T) {
	m := newMaker(2)
	right := [2]int{}
	for i := range 6000 {
		b := written(t, defs(), made[api.Def](m, i%4))
		c := written(t, programs(), made[api.Program](m, i%3))
		for range 1 + i%3 {
			b, c = changed(m, b), changed(m, c)
		}
		if readsAsModel(t, defs(), b) {
			right[0]++
		}
		if readsAsModel(t, programs(), c) {
			right[1]++
		}
	}
	for _, n := range right {
		if n < 500 || n > 5500 {
			t.Errorf("%d of 6000 are read", n)
		}
	}
}

// P7.1, G2: any words; most of them are small, so that they can be lengths.
func TestReadingAnyWords(t *testing.T) {
	m := newMaker(3)
	right := 0
	for range 40000 {
		l := []int{1}
		for range m.r.Intn(60) {
			l = append(l, pick(m, 0, 0, 0, 0, 0, 0, 0, 0, 0, 1, 1, 2, m.number()))
		}
		if readsAsModel(t, defs(), bytesOf(l)) {
			right++
		}
		l[0] = 2
		if readsAsModel(t, programs(), bytesOf(l)) {
			right++
		}
	}
	if right < 100 {
		t.Errorf("%d are read", right)
	}
}

// P7.1, G3 and G4: leaves and commitments, for statements with statements, and for none.
func TestLeavesAndCommit(t *testing.T) {
	m := newMaker(4)
	for i := range 300 {
		d, salt := m.def(i%10), m.number()
		header := d
		header.Body = nil
		want := []uint64{digest.Words(wordsOf(header))}
		for _, s := range d.Body {
			want = append(want, digest.Words(wordsOf(s)))
		}
		if l := encode.Leaves(d); !slices.Equal(l, want) {
			t.Errorf("%+v: %v, not %v", d, l, want)
		}
		root := merkle.Root(append([]uint64{digest.Words([]int{salt})}, want...))
		if c := encode.Commit(d, salt); c != root {
			t.Errorf("%+v with %d: %d, not %d", d, salt, c, root)
		}
	}
}

// P7.1, G3 and G4: they have no limit.
func TestLeavesOfBigStatements(t *testing.T) {
	big := api.Stmt{Ptrs: make([]int, maxWords+1)}
	d := api.Def{Name: string(make([]byte, maxWords)), Body: slices.Repeat([]api.Stmt{{}}, maxWords)}
	d.Body[0], d.Body[2] = big, big
	l := encode.Leaves(d)
	header := d
	header.Body = nil
	if len(l) != maxWords+1 || l[0] != digest.Words(wordsOf(header)) || l[1] != digest.Words(wordsOf(big)) || l[2] != digest.Words(make([]int, 20)) || l[3] != l[1] {
		t.Errorf("%d leaves", len(l))
	}
	if c := encode.Commit(d, 5); c != merkle.Root(append([]uint64{digest.Words([]int{5})}, l...)) {
		t.Error(c)
	}
}

// P7.1: lists without elements are all the same.
func TestEmptyLists(t *testing.T) {
	d := api.Def{Params: []api.Range{}, Given: []api.Range{}, Arrays: []api.Array{}, Body: []api.Stmt{}}
	s := api.Stmt{X: api.Expr{A: []api.Expr{}}, C: api.Cond{A: []api.Expr{}, C: []api.Cond{}}, Args: []api.Expr{}, Ptrs: []int{}, Body: []api.Stmt{}, Else: []api.Stmt{}}
	if !bytes.Equal(written(t, defs(), d), written(t, defs(), api.Def{})) {
		t.Error("a definition")
	}
	d.Body = []api.Stmt{s}
	plain := api.Def{Body: []api.Stmt{{}}}
	if !bytes.Equal(written(t, defs(), d), written(t, defs(), plain)) || !slices.Equal(encode.Leaves(d), encode.Leaves(plain)) || encode.Commit(d, 1) != encode.Commit(plain, 1) {
		t.Error("a statement")
	}
	p := api.Program{D: api.Decl{Globals: []api.Range{}, Classes: []api.Range{}, Queues: []api.Queue{}, Sinks: []int{}}, Heads: []api.Head{}, Defs: []api.Def{}, Threads: []int{}}
	if !bytes.Equal(written(t, programs(), p), written(t, programs(), api.Program{})) {
		t.Error("a program")
	}
}

// P7.1, G5: arguments stay as they are, and what is read has memory of its own.
func TestArgumentsStay(t *testing.T) {
	m := newMaker(5)
	for range 200 {
		d, p := made[api.Def](m, 3), made[api.Program](m, 3)
		d2, p2 := tidy(d), tidy(p)
		b, c := written(t, defs(), d), written(t, programs(), p)
		encode.Leaves(d)
		encode.Commit(d, 3)
		if !same(d, d2) || !same(p, p2) {
			t.Fatal("a value was changed")
		}
		b2, c2 := slices.Clone(b), slices.Clone(c)
		x, _ := encode.ReadDef(b)
		y, _ := encode.ReadProgram(c)
		encode.ReadDef(c)
		encode.ReadProgram(b)
		if !bytes.Equal(b, b2) || !bytes.Equal(c, c2) {
			t.Fatal("bytes were changed")
		}
		clear(b)
		clear(c)
		if !same(x, d2) || !same(y, p2) {
			t.Fatal("a result uses the bytes of its argument")
		}
	}
}

// P7.1: no lists of a result share memory: an element more in one of them is in no other one.
func TestResultsShareNothing(t *testing.T) {
	d := api.Def{Params: []api.Range{{Lo: 1}}, Given: []api.Range{{Lo: 2}}, Body: []api.Stmt{{Body: []api.Stmt{{Site: 1}, {Site: 2}, {Site: 3}}, Else: []api.Stmt{{Site: 4}}}, {Site: 5}}}
	x, _ := encode.ReadDef(written(t, defs(), d))
	want := tidy(x)
	_ = append(x.Params, api.Range{Lo: 9})
	_ = append(x.Body[0].Body, api.Stmt{Site: 9})
	_ = append(x.Body[0].Else, api.Stmt{Site: 9})
	_ = append(x.Body, api.Stmt{Site: 9})
	if !reflect.DeepEqual(tidy(x), want) || !same(x, d) {
		t.Errorf("%+v", x)
	}
}
