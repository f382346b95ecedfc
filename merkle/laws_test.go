package merkle_test

import (
	"slices"
	"testing"

	"parole/api"
	"parole/digest"
	"parole/merkle"
)

// P4.2: all places of all short lists, and of some long ones.
func TestPathsAreAccepted(t *testing.T) {
	m := newMaker(10)
	for n := 1; n <= 130; n++ {
		allAccepted(t, m.list(n))
	}
	for _, n := range []int{1000, 2049, 4095, 4096} {
		allAccepted(t, m.list(n))
	}
}

func allAccepted(t *testing.T, l []uint64) {
	t.Helper()
	root := merkle.Root(l)
	for i := range l {
		o := opened(t, l, i)
		if e := check(root, len(l), i, o); e != api.OK || len(o.Path) > 12 {
			t.Fatalf("place %d of %d has a path of %d elements, for which Check gives %d", i, len(l), len(o.Path), e)
		}
	}
}

// P4.2: for the longest lists, 12 elements are needed.
func TestLongestPaths(t *testing.T) {
	for _, c := range []struct{ n, i, want int }{{4096, 0, 12}, {4096, 4095, 12}, {4095, 0, 12}, {4095, 4094, 11}, {2049, 0, 12}, {2049, 2048, 1}, {2048, 0, 11}, {1, 0, 0}, {2, 1, 1}} {
		if o := opened(t, upTo(c.n), c.i); len(o.Path) != c.want {
			t.Errorf("the path of place %d of %d has %d elements, not %d", c.i, c.n, len(o.Path), c.want)
		}
	}
}

// P4.3: openings that are forged for one root give their collision away.
func TestForgedOpeningsCollide(t *testing.T) {
	m := newMaker(11)
	for _, at := range m.places() {
		n, i := at[0], at[1]
		p := m.opening(n, i)
		root := leads(n, i, p)
		for k := range p.Path {
			q := forge(n, i, p, differ(m, p, k), k)
			if check(root, n, i, p) != api.OK || check(root, n, i, q) != api.OK {
				t.Fatalf("place %d of %d: %x and %x are not both accepted for %x", i, n, p, q, root)
			}
			c, is := merkle.Collide(n, i, p, q)
			if !is || c[0] == c[1] || join(c[0]) != join(c[1]) {
				t.Fatalf("place %d of %d: %x and %x collide at %x, %v", i, n, p, q, c, is)
			}
		}
	}
}

// P4.3: openings of a list that someone forged collide with those of the list itself.
func TestForgedElement(t *testing.T) {
	m := newMaker(12)
	for n := 2; n <= 40; n++ {
		l := m.list(n)
		for i := range l {
			p := opened(t, l, i)
			q := forge(n, i, p, api.Opening{Leaf: ^p.Leaf, Path: p.Path}, 0)
			if e := check(merkle.Root(l), n, i, q); e != api.OK {
				t.Fatalf("place %d of %d: %x is refused: %d", i, n, q, e)
			}
			found(t, n, i, p, q, 1)
		}
	}
}

// P4.3: what differs at one element only is not accepted, as no pair can hide it.
func TestOneElementDiffers(t *testing.T) {
	m := newMaker(13)
	for _, at := range m.places() {
		n, i := at[0], at[1]
		p := m.opening(n, i)
		root := leads(n, i, p)
		for bit := range 64 {
			if e := merkle.Check(root, n, i, p.Leaf^1<<bit, p.Path); e != api.ErrProof {
				t.Fatalf("place %d of %d: %x is accepted with another leaf: %d", i, n, p, e)
			}
			for k := range p.Path {
				other := slices.Clone(p.Path)
				other[k] ^= 1 << bit
				if e := merkle.Check(root, n, i, p.Leaf, other); e != api.ErrProof {
					t.Fatalf("place %d of %d: %x is accepted with another element %d: %d", i, n, p, k, e)
				}
			}
		}
	}
}

// P4.4: the root of the first k numbers shows what their top is.
func TestFirstHalf(t *testing.T) {
	m := newMaker(14)
	for k := 1; k <= 64; k *= 2 {
		l := m.list(2 * k)
		for n := k + 1; n <= 2*k; n++ {
			for i := k; i < n; i++ {
				copy(l[k:], m.list(k))
				path := opened(t, l[:n], i).Path
				if digest.Join(uint64(k), path[len(path)-1]) != merkle.Root(l[:k]) {
					t.Fatalf("the path of place %d of %d ends with %x, which is not the top of the first %d numbers", i, n, path[len(path)-1], k)
				}
			}
		}
	}
}

// P4.4: at the limits.
func TestFirstHalfOfLongLists(t *testing.T) {
	l := newMaker(15).list(4096)
	for _, c := range []struct{ n, i, k int }{{4096, 2048, 2048}, {4096, 4095, 2048}, {2049, 2048, 2048}, {2048, 1024, 1024}, {2048, 2047, 1024}, {2, 1, 1}, {3, 2, 2}} {
		path := opened(t, l[:c.n], c.i).Path
		if digest.Join(uint64(c.k), path[len(path)-1]) != merkle.Root(l[:c.k]) {
			t.Errorf("the path of place %d of %d does not end with the top of the first %d numbers", c.i, c.n, c.k)
		}
	}
}

// P4.5: and the paths of other places do not lead there.
func TestChanges(t *testing.T) {
	m := newMaker(16)
	for _, at := range m.places() {
		n, i := at[0], at[1]
		l := m.list(n)
		before := opened(t, l, i)
		elsewhere := opened(t, l, (i+1)%n)
		l[i] += 1 + m.r.Uint64()>>1
		after := opened(t, l, i)
		if !slices.Equal(before.Path, after.Path) {
			t.Fatalf("place %d of %d: the path was %x, and is %x", i, n, before.Path, after.Path)
		}
		if e := merkle.Check(merkle.Root(l), n, i, l[i], before.Path); e != api.OK {
			t.Fatalf("place %d of %d: its path does not lead to the changed root: %d", i, n, e)
		}
		if e := check(merkle.Root(l), n, i, before); e != api.ErrProof {
			t.Fatalf("place %d of %d: the number that was there is accepted: %d", i, n, e)
		}
		if e := check(merkle.Root(l), n, (i+1)%n, elsewhere); e != api.ErrProof {
			t.Fatalf("place %d of %d: it has changed, but an older opening of another place is accepted: %d", i, n, e)
		}
	}
}
