package encode_test

import (
	"bytes"
	"slices"
	"testing"

	"parole/api"
	"parole/digest"
	"parole/encode"
	"parole/merkle"
)

func returns[T any](t *testing.T, f form[T], x T) {
	t.Helper()
	b := written(t, f, x)
	reads(t, f, b, x)
	y, _ := f.read(b)
	if again := written(t, f, y); !bytes.Equal(b, again) {
		t.Errorf("%+v is written in two ways", x)
	}
}

// P7.2: what was written is read.
func TestRoundTrip(t *testing.T) {
	returns(t, defs(), api.Def{})
	returns(t, programs(), api.Program{})
	returns(t, defs(), numbered[api.Def](2000))
	returns(t, programs(), numbered[api.Program](2000))
	m := newMaker(11)
	for i := range 800 {
		returns(t, defs(), made[api.Def](m, i%5))
		returns(t, programs(), made[api.Program](m, i%4))
	}
}

func returnsBytes[T any](f form[T], b []byte) (read, same bool) {
	x, e := f.read(b)
	if e != api.OK {
		return false, false
	}
	again, e := f.write(x)
	return true, e == api.OK && bytes.Equal(b, again)
}

// P7.2: bytes that are read are those that are written.
func TestBytesRoundTrip(t *testing.T) {
	m := newMaker(12)
	count := 0
	for i := range 10000 {
		b := changed(m, written(t, defs(), made[api.Def](m, i%4)))
		read, same := returnsBytes(defs(), b)
		if read && !same {
			t.Errorf("a definition: %v", b)
		}
		c := changed(m, written(t, programs(), made[api.Program](m, i%3)))
		also, same := returnsBytes(programs(), c)
		if also && !same {
			t.Errorf("a program: %v", c)
		}
		if read && also {
			count++
		}
	}
	if count < 500 {
		t.Errorf("%d are read", count)
	}
}

// P7.2: different things have different bytes.
func TestDifferentBytes(t *testing.T) {
	m := newMaker(13)
	for i := range 2000 {
		a, b := made[api.Def](m, i%2), made[api.Def](m, i%2)
		p, q := made[api.Program](m, i%2), made[api.Program](m, i%2)
		if same(a, b) != bytes.Equal(written(t, defs(), a), written(t, defs(), b)) || same(p, q) != bytes.Equal(written(t, programs(), p), written(t, programs(), q)) {
			t.Errorf("%+v and %+v, or %+v and %+v", a, b, p, q)
		}
	}
}

func hasOneLength[T any](t *testing.T, f form[T], m maker, x T) {
	t.Helper()
	b := written(t, f, x)
	for n := range b {
		refuses(t, f, b[:n], api.ErrForm)
	}
	for n := 1; n < 20; n++ {
		refuses(t, f, append(slices.Clone(b), make([]byte, n)...), api.ErrForm)
	}
	for range 5 {
		refuses(t, f, append(slices.Clone(b), bytesOf([]int{m.number()})...), api.ErrForm)
	}
	for _, more := range [][]byte{b, written(t, defs(), api.Def{}), written(t, programs(), api.Program{}), {255}} {
		refuses(t, f, append(slices.Clone(b), more...), api.ErrForm)
	}
}

// P7.3: nothing shorter and nothing longer is read; so it is with programs.
func TestOneLength(t *testing.T) {
	m := newMaker(14)
	hasOneLength(t, defs(), m, api.Def{})
	hasOneLength(t, programs(), m, api.Program{})
	hasOneLength(t, defs(), m, api.Def{Name: "abcdefgh", Body: []api.Stmt{{}, {}}})
	for range 12 {
		hasOneLength(t, defs(), m, made[api.Def](m, 2))
		hasOneLength(t, programs(), m, made[api.Program](m, 2))
	}
}

// P7.4: a statement that changes, or the header, changes its own leaf alone.
func TestChangesOfLeaves(t *testing.T) {
	m := newMaker(15)
	for i := range 600 {
		d := m.def(1 + i%9)
		other := d
		other.Body = slices.Clone(d.Body)
		at := m.r.Intn(len(d.Body) + 1)
		if at == 0 {
			body := other.Body
			other = made[api.Def](m, 2)
			other.Body = body
		} else {
			other.Body[at-1] = made[api.Stmt](m, i%4)
		}
		a, b := encode.Leaves(d), encode.Leaves(other)
		if len(a) != len(d.Body)+1 || len(b) != len(a) {
			t.Fatalf("%d and %d leaves of %d statements", len(a), len(b), len(d.Body))
		}
		for k := range a {
			if (a[k] == b[k]) != (k != at) {
				t.Errorf("leaf %d, with a change at %d: %d and %d", k, at, a[k], b[k])
			}
		}
		if encode.Commit(d, i) == encode.Commit(other, i) {
			t.Errorf("%+v and %+v have one commitment", d, other)
		}
	}
}

// P7.4: each field of a statement, at any depth, is in its leaf; a leaf does not depend on where it stands, and on what stands beside it.
func TestLeavesOfFields(t *testing.T) {
	s := numbered[api.Stmt](1)
	own := encode.Leaves(api.Def{Body: []api.Stmt{s}})[1]
	l := wordsOf(s)
	for i, w := range modelWords(s) {
		if w.what != aNumber {
			continue
		}
		changed := slices.Clone(l)
		changed[i]++
		d, ok := modelRead[api.Def](bytesOf(slices.Concat([]int{1, 0, 0, 0, 0, 0, 0, 0, 0, 0, 0, 0, 1}, changed)))
		if !ok {
			t.Fatalf("word %d", i)
		}
		if encode.Leaves(d)[1] == own {
			t.Errorf("word %d is not in the leaf", i)
		}
	}
	m := newMaker(16)
	d := m.def(5)
	for i := range d.Body {
		d.Body = slices.Concat(d.Body[:i], []api.Stmt{s}, d.Body[i:])
		if l := encode.Leaves(d); l[i+1] != own {
			t.Errorf("at %d: %d, not %d", i, l[i+1], own)
		}
	}
}

// P7.5: salt, header and each statement are shown by an opening, which shows nothing else.
func TestOpenings(t *testing.T) {
	m := newMaker(17)
	for _, n := range []int{0, 1, 2, 3, 4, 5, 6, 7, 8, 13, 30, 62, 200} {
		d, salt := m.def(n), m.number()
		root := encode.Commit(d, salt)
		header := d
		header.Body = nil
		shown := [][]int{{salt}, wordsOf(header)}
		for _, s := range d.Body {
			shown = append(shown, wordsOf(s))
		}
		list := append([]uint64{digest.Words([]int{salt})}, encode.Leaves(d)...)
		for i, l := range shown {
			path, e := merkle.Open(list, i)
			if e != api.OK {
				t.Fatalf("place %d of %d: %d", i, n+2, e)
			}
			if e := merkle.Check(root, n+2, i, digest.Words(l), path); e != api.OK {
				t.Errorf("place %d of %d is not shown: %d", i, n+2, e)
			}
			other := slices.Clone(l)
			other[m.r.Intn(len(l))]++
			if e := merkle.Check(root, n+2, i, digest.Words(other), path); e != api.ErrProof {
				t.Errorf("something else is shown at place %d of %d: %d", i, n+2, e)
			}
		}
	}
}

// P7.5: the commitment depends on the salt, the header, the statements and their order.
func TestCommitments(t *testing.T) {
	d := newMaker(18).def(4)
	named, swapped, shorter := d, d, d
	named.Name += "a"
	swapped.Body = []api.Stmt{d.Body[0], d.Body[2], d.Body[1], d.Body[3]}
	shorter.Body = d.Body[:3]
	seen := map[uint64]int{}
	for _, x := range []api.Def{d, named, swapped, shorter, {}} {
		for _, salt := range []int{0, 1, -1, 1 << 32, -1 << 63} {
			seen[encode.Commit(x, salt)]++
		}
	}
	if len(seen) != 25 {
		t.Errorf("%d commitments", len(seen))
	}
}

// P7.6: the definitions stand one behind the other, between the heads and the threads.
func TestDefsInProgram(t *testing.T) {
	m := newMaker(19)
	for i := range 400 {
		p := made[api.Program](m, 3)
		p.Defs = nil
		for range i % 5 {
			p.Defs = append(p.Defs, made[api.Def](m, i%4))
		}
		var joined []byte
		for _, d := range p.Defs {
			joined = append(joined, written(t, defs(), d)...)
		}
		b := written(t, programs(), p)
		none := p
		none.Defs = nil
		around := written(t, programs(), none)
		behind := 8 * (1 + len(p.Threads))
		ahead := len(around) - behind - 8
		want := slices.Concat(around[:ahead], bytesOf([]int{len(p.Defs)}), joined, around[len(around)-behind:])
		if !bytes.Equal(b, want) {
			t.Errorf("%+v: %v", p, b)
		}
	}
}
