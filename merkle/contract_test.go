package merkle_test

import (
	"math"
	"slices"
	"testing"

	"parole/api"
	"parole/digest"
	"parole/merkle"
)

func upTo(n int) []uint64 {
	l := make([]uint64, n)
	for i := range l {
		l[i] = uint64(i)
	}
	return l
}

// P4.1, D1: roots that were computed apart; also of lists that cannot be opened.
func TestRoot(t *testing.T) {
	for _, c := range []struct {
		l    []uint64
		want uint64
	}{
		{nil, 0x5f8e352a2468534a}, {[]uint64{}, 0x5f8e352a2468534a}, {upTo(1), 0x16dc3667b20d2fe9}, {[]uint64{5}, 0x8ee4f06ab6779303}, {[]uint64{math.MaxUint64}, 0xc93a79e74578f215}, {[]uint64{0, 0}, 0x56420a8fc2bb553a}, {[]uint64{5, 6}, 0x68b77edef2f75df7}, {[]uint64{6, 5}, 0xa75507d821a49f2d}, {[]uint64{1 << 63, math.MaxUint64}, 0x1c1ef9375813e091}, {[]uint64{5, 6, 7}, 0xef9c3e5992e1fb8a}, {[]uint64{0, 0, 0}, 0xf5e727723dd3ccc8}, {[]uint64{5, 6, 7, 8}, 0x04c64743badfcfc6}, {[]uint64{5, 6, 7, 8, 9}, 0x6422cac86a67ee3f}, {upTo(100), 0x6da8ad45d8038489}, {upTo(4096), 0x64fca58413403923}, {upTo(4097), 0xf2ffb9133ef5024a}, {upTo(10000), 0x60f475fa36291050},
	} {
		if x := merkle.Root(c.l); x != c.want {
			t.Errorf("the root of %d numbers is %x, not %x", len(c.l), x, c.want)
		}
	}
}

// P4.1, D1: against a tree that is built from below.
func TestRootIsBuiltFromBelow(t *testing.T) {
	m := newMaker(1)
	for n := range 300 {
		if l := m.list(n); merkle.Root(l) != rootOf(l) {
			t.Fatalf("the root of %x is %x, not %x", l, merkle.Root(l), rootOf(l))
		}
	}
	for _, n := range []int{1023, 1024, 1025, 4095, 4096, 4097, 70000} {
		if l := m.list(n); merkle.Root(l) != rootOf(l) {
			t.Errorf("the root of %d numbers is %x, not %x", n, merkle.Root(l), rootOf(l))
		}
	}
}

// P4.1, D2: paths that were computed apart, of lists 0, 1, 2, ..
func TestOpen(t *testing.T) {
	for _, c := range []struct {
		n, i int
		want []uint64
	}{
		{1, 0, nil}, {2, 0, []uint64{0x22d3de2586609384}}, {2, 1, []uint64{0x5f8e352a2468534a}}, {3, 0, []uint64{0x22d3de2586609384, 0x393fff0f7ccb0e4d}}, {3, 1, []uint64{0x5f8e352a2468534a, 0x393fff0f7ccb0e4d}}, {3, 2, []uint64{0x86d8a6e1371da20e}}, {5, 0, []uint64{0x22d3de2586609384, 0x2a4bf70114faf46d, 0xaab1ee0ee182f4aa}}, {5, 4, []uint64{0x5dabab53f6deb2d0}}, {7, 6, []uint64{0xb23a5f5af59a5e49, 0x5dabab53f6deb2d0}}, {7, 3, []uint64{0x393fff0f7ccb0e4d, 0x86d8a6e1371da20e, 0x66fbce5507f9e652}}, {8, 5, []uint64{0xaab1ee0ee182f4aa, 0x2db2dee9de251084, 0x5dabab53f6deb2d0}},
	} {
		if p, e := merkle.Open(upTo(c.n), c.i); !slices.Equal(p, c.want) || e != api.OK {
			t.Errorf("the path of place %d of %d is %x, %d, not %x", c.i, c.n, p, e, c.want)
		}
	}
	m := newMaker(2)
	for _, at := range m.places() {
		l := m.list(at[0])
		if o := opened(t, l, at[1]); !slices.Equal(o.Path, pathOf(l, at[1])) {
			t.Fatalf("the path of place %d of %x is %x, not %x", at[1], l, o.Path, pathOf(l, at[1]))
		}
	}
}

// P4.1, D3: what leads to a root is accepted, whether or not there is a list.
func TestCheckAcceptsWhatLeads(t *testing.T) {
	m := newMaker(3)
	for _, at := range m.places() {
		n, i := at[0], at[1]
		for range 5 {
			o := m.opening(n, i)
			root := leads(n, i, o)
			if e := check(root, n, i, o); e != api.OK {
				t.Fatalf("place %d of %d: %x, which leads to %x, is refused: %d", i, n, o, root, e)
			}
			if e := check(root^1<<m.r.Intn(64), n, i, o); e != api.ErrProof {
				t.Fatalf("place %d of %d: %x, which leads to %x, leads to another root, too: %d", i, n, o, root, e)
			}
		}
	}
}

// P4.1, D3: the number of numbers belongs to the root.
func TestCheckNeedsLength(t *testing.T) {
	m := newMaker(4)
	for n := 2; n <= 40; n++ {
		l := m.list(n)
		for i := range n {
			o := opened(t, l, i)
			for other := i + 1; other <= 60; other++ {
				if e := check(merkle.Root(l), other, i, o); (e == api.OK) != (other == n) || e != api.OK && e != api.ErrProof {
					t.Fatalf("place %d of %d is checked as one of %d: %d", i, n, other, e)
				}
			}
		}
	}
}

// P4.1, D4: the first of two forged pairs is found, whatever follows.
func TestCollideFindsTheFirst(t *testing.T) {
	m := newMaker(5)
	for _, at := range m.places() {
		n, i := at[0], at[1]
		p := m.opening(n, i)
		for k := range p.Path {
			q := forge(n, i, p, differ(m, p, k), k)
			found(t, n, i, p, q, k+1)
			for k2 := k + 2; k2 < len(p.Path); k2 += 3 {
				twice := slices.Clone(q.Path)
				twice[k2-1]++
				found(t, n, i, p, forge(n, i, p, api.Opening{Leaf: q.Leaf, Path: twice}, k2), k+1)
			}
			if k+1 < len(p.Path) { // the roots need not be one
				q.Path[k+1]++
				found(t, n, i, p, q, k+1)
			}
		}
	}
}

// found fails unless p and q collide first at their pairs k.
func found(t *testing.T, n, i int, p, q api.Opening, k int) {
	t.Helper()
	a, b := pairsOf(n, i, p)[k], pairsOf(n, i, q)[k]
	if c, is := merkle.Collide(n, i, p, q); !is || c != [2][2]uint64{a, b} {
		t.Fatalf("place %d of %d: %x and %x collide at %x, %v, not at %x, %x", i, n, p, q, c, is, a, b)
	}
	if c, is := merkle.Collide(n, i, q, p); !is || c != [2][2]uint64{b, a} {
		t.Fatalf("place %d of %d: %x and %x collide at %x, %v, not at %x, %x", i, n, q, p, c, is, b, a)
	}
}

// P4.1, D4: a collision of known numbers.
func TestCollideExample(t *testing.T) {
	p := api.Opening{Leaf: 6, Path: []uint64{10, 20}}
	q := api.Opening{Leaf: 7, Path: []uint64{10, 0}}
	x, y := digest.Join(10, digest.Join(0, 6)), digest.Join(10, digest.Join(0, 7))
	q.Path[1] = neighbour(y, digest.Join(x, 20), false)
	want := [2][2]uint64{{x, 20}, {y, q.Path[1]}}
	if c, is := merkle.Collide(3, 1, p, q); !is || c != want {
		t.Errorf("they collide at %x, %v, not at %x", c, is, want)
	}
	none(t, 4, 0, p, q) // where the elements of the paths come last
}

func none(t *testing.T, n, i int, p, q api.Opening) {
	t.Helper()
	for range 2 {
		if c, is := merkle.Collide(n, i, p, q); is || c != ([2][2]uint64{}) {
			t.Fatalf("place %d of %d: %x and %x collide at %x, %v", i, n, p, q, c, is)
		}
		p, q = q, p
	}
}

// P4.1, D4: without a collision.
func TestCollideFindsNone(t *testing.T) {
	m := newMaker(6)
	for _, at := range m.places() {
		n, i := at[0], at[1]
		p := m.opening(n, i)
		none(t, n, i, p, p)
		none(t, n, i, p, m.opening(n, i))
		none(t, n, i, p, differ(m, p, 0))
		for k := range p.Path {
			other := slices.Clone(p.Path)
			other[k]++
			none(t, n, i, p, api.Opening{Leaf: p.Leaf, Path: other})
		}
	}
}

// P4.1, D5: neither the arguments nor what stands behind them in memory.
func TestNothingIsModified(t *testing.T) {
	m := newMaker(7)
	for n := 1; n < 40; n++ {
		l := m.list(n + 20)
		kept := slices.Clone(l)
		for i := range n {
			o := opened(t, l[:n], i)
			for k := range o.Path { // a path has memory of its own
				o.Path[k] = 1
			}
			merkle.Root(l[:n])
			p, q := l[:len(o.Path)], l[1:1+len(o.Path)]
			merkle.Check(leads(n, i, api.Opening{Path: p}), n, i, 0, p)
			merkle.Collide(n, i, api.Opening{Leaf: 1, Path: p}, api.Opening{Leaf: 2, Path: q})
			if !slices.Equal(l, kept) {
				t.Fatalf("place %d of %d: the argument has changed", i, n)
			}
		}
	}
}
