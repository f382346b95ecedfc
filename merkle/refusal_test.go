package merkle_test

import (
	"math"
	"slices"
	"testing"

	"parole/api"
	"parole/merkle"
)

// P4.6, D2: the length is looked at first.
func TestOpenRefusesPlaces(t *testing.T) {
	for _, c := range []struct {
		n, i int
		e    api.Errno
	}{
		{0, 0, api.ErrArg}, {0, -1, api.ErrArg}, {1, 1, api.ErrArg}, {1, -1, api.ErrArg}, {3, 3, api.ErrArg}, {3, 4, api.ErrArg}, {3, math.MaxInt, api.ErrArg}, {3, math.MinInt, api.ErrArg}, {3, 1 << 32, api.ErrArg}, {4096, 4096, api.ErrArg}, {4096, -1, api.ErrArg},
		{4097, 0, api.ErrBig}, {4097, 4096, api.ErrBig}, {4097, 4097, api.ErrBig}, {4097, -1, api.ErrBig}, {4097, math.MinInt, api.ErrBig}, {10000, 5, api.ErrBig},
	} {
		if p, e := merkle.Open(upTo(c.n), c.i); len(p) != 0 || e != c.e {
			t.Errorf("Open of place %d of %d gives %x, %d, not %d", c.i, c.n, p, e, c.e)
		}
	}
}

// badPlaces are places that Check refuses, whatever the opening is.
var badPlaces = []struct {
	n, i int
	e    api.Errno
}{
	{0, 0, api.ErrArg}, {0, -1, api.ErrArg}, {-1, 0, api.ErrArg}, {-1, -1, api.ErrArg}, {-1, -2, api.ErrArg}, {1, 1, api.ErrArg}, {3, 3, api.ErrArg}, {3, -1, api.ErrArg}, {3, math.MaxInt, api.ErrArg}, {3, math.MinInt, api.ErrArg}, {3, 1 << 32, api.ErrArg}, {math.MinInt, 0, api.ErrArg}, {math.MinInt, math.MinInt, api.ErrArg}, {-4097, 0, api.ErrArg}, {4096, 4096, api.ErrArg}, {4096, -1, api.ErrArg},
	{4097, 0, api.ErrBig}, {4097, 4096, api.ErrBig}, {4097, 4097, api.ErrBig}, {4097, -1, api.ErrBig}, {math.MaxInt, 0, api.ErrBig}, {math.MaxInt, math.MaxInt, api.ErrBig}, {math.MaxInt, math.MinInt, api.ErrBig}, {1<<32 + 3, 1, api.ErrBig},
}

// P4.6, D3: the place is looked at ahead of the opening.
func TestCheckRefusesPlaces(t *testing.T) {
	l := []uint64{5, 6, 7}
	paths := [][]uint64{nil, opened(t, l, 1).Path, make([]uint64, 12), make([]uint64, 100)}
	for _, c := range badPlaces {
		for _, path := range paths {
			if e := merkle.Check(merkle.Root(l), c.n, c.i, 6, path); e != c.e {
				t.Errorf("Check of place %d of %d, with a path of %d elements, gives %d, not %d", c.i, c.n, len(path), e, c.e)
			}
		}
	}
}

// P4.6, D4: openings that collide at a place are nothing at a place that there is not.
func TestCollideRefusesPlaces(t *testing.T) {
	p := api.Opening{Leaf: 6, Path: []uint64{10, 20}}
	q := forge(3, 1, p, api.Opening{Leaf: 7, Path: p.Path}, 1)
	found(t, 3, 1, p, q, 2)
	for _, c := range badPlaces {
		none(t, c.n, c.i, p, q)
		none(t, c.n, c.i, api.Opening{Leaf: 6}, api.Opening{Leaf: 7})
	}
}

// P4.6, D4: not even openings that would collide there, as they have the right length, or that of the nearest place.
func TestCollideRefusesWhatWouldFit(t *testing.T) {
	m := newMaker(21)
	for _, c := range [][2]int{{4097, 0}, {4097, 4096}, {4097, 4095}, {5000, 4999}, {1 << 40, 12345}, {3, -1}, {3, 3}, {3, 1 << 32}, {4, 4}, {4096, -1}, {4096, 4096}, {4097, -1}, {4097, 4097}} {
		n, i := c[0], c[1]
		near := min(max(i, 0), n-1)
		p := m.opening(n, near)
		for k := range p.Path {
			none(t, n, i, p, forge(n, near, p, differ(m, p, k), k))
		}
	}
}

// otherLengths returns paths that have fewer or more elements than path.
func otherLengths(path []uint64) [][]uint64 {
	var out [][]uint64
	for k := range path {
		out = append(out, path[:k], path[k+1:])
	}
	for _, more := range [][]uint64{{0}, path, make([]uint64, 12), make([]uint64, 5000)} {
		if len(more) > 0 {
			out = append(out, append(slices.Clone(path), more...), append(slices.Clone(more), path...))
		}
	}
	return out
}

// P4.6, D3 and D4: paths of another length, even if a part of them leads to the root.
func TestOtherLengths(t *testing.T) {
	m := newMaker(20)
	for _, at := range m.places() {
		n, i := at[0], at[1]
		l := m.list(n)
		p := opened(t, l, i)
		q := m.opening(n, i)
		if len(p.Path) > 0 {
			q = forge(n, i, p, api.Opening{Leaf: ^p.Leaf, Path: p.Path}, 0)
			found(t, n, i, p, q, 1)
		}
		for _, path := range otherLengths(p.Path) {
			if e := merkle.Check(merkle.Root(l), n, i, p.Leaf, path); e != api.ErrProof {
				t.Fatalf("place %d of %d: a path of %d elements, not %d, gives %d", i, n, len(path), len(p.Path), e)
			}
			none(t, n, i, api.Opening{Leaf: p.Leaf, Path: path}, q)
			none(t, n, i, api.Opening{Leaf: p.Leaf, Path: path}, api.Opening{Leaf: q.Leaf, Path: path})
		}
	}
}
