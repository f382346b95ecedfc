package merkle_test

import (
	"math"
	"math/rand"
	"slices"
	"testing"

	"parole/api"
	"parole/digest"
	"parole/merkle"
)

// levels builds the tree from below: the digests of the numbers, then, level by level, those of two neighbours each; the last one of an odd number goes up as it is. So the first part of each split has as many numbers as the greatest power of 2 says.
func levels(l []uint64) [][]uint64 {
	var level []uint64
	for _, v := range l {
		level = append(level, digest.Join(0, v))
	}
	out := [][]uint64{level}
	for len(level) > 1 {
		var next []uint64
		for i := 0; i+1 < len(level); i += 2 {
			next = append(next, digest.Join(level[i], level[i+1]))
		}
		if len(level)%2 == 1 {
			next = append(next, level[len(level)-1])
		}
		level = next
		out = append(out, level)
	}
	return out
}

func rootOf(l []uint64) uint64 {
	if len(l) == 0 {
		return digest.Join(0, 0)
	}
	built := levels(l)
	return digest.Join(uint64(len(l)), built[len(built)-1][0])
}

// pathOf returns the neighbours that the place i has on its way up.
func pathOf(l []uint64, i int) []uint64 {
	var out []uint64
	for _, level := range levels(l) {
		if k := i ^ 1; k < len(level) {
			out = append(out, level[k])
		}
		i /= 2
	}
	return out
}

// aheads says, for each neighbour on the way up from the place i of n, whether it comes first.
func aheads(n, i int) []bool {
	var out []bool
	for ; n > 1; n, i = (n+1)/2, i/2 {
		if i^1 < n {
			out = append(out, i%2 == 1)
		}
	}
	return out
}

func ordered(own, other uint64, ahead bool) [2]uint64 {
	if ahead {
		return [2]uint64{other, own}
	}
	return [2]uint64{own, other}
}

func join(pair [2]uint64) uint64 { return digest.Join(pair[0], pair[1]) }

// pairsOf returns the pairs of an opening, from the leaf to the root.
func pairsOf(n, i int, o api.Opening) [][2]uint64 {
	out := [][2]uint64{{0, o.Leaf}}
	for k, ahead := range aheads(n, i) {
		out = append(out, ordered(join(out[k]), o.Path[k], ahead))
	}
	return append(out, [2]uint64{uint64(n), join(out[len(out)-1])})
}

// leads returns the root to which an opening leads.
func leads(n, i int, o api.Opening) uint64 {
	l := pairsOf(n, i, o)
	return join(l[len(l)-1])
}

// neighbour returns the number that gives the digest want together with own.
func neighbour(own, want uint64, ahead bool) uint64 {
	const start = 0xA4093822299F31D0
	if ahead {
		return digest.Back(start, digest.Back(own, want))
	}
	return digest.Back(digest.Step(start, own), want)
}

// forge returns o with another number at element k of its path, so that its tops from there on are those of p.
func forge(n, i int, p, o api.Opening, k int) api.Opening {
	o.Path = slices.Clone(o.Path)
	own, want := join(pairsOf(n, i, o)[k]), join(pairsOf(n, i, p)[k+1])
	o.Path[k] = neighbour(own, want, aheads(n, i)[k])
	return o
}

// differ returns o with another number below element k of its path: another leaf, or another element.
func differ(m maker, o api.Opening, k int) api.Opening {
	o.Path = slices.Clone(o.Path)
	if at := m.r.Intn(k + 1); at > 0 {
		o.Path[at-1] ^= 1 + m.r.Uint64()>>1
	} else {
		o.Leaf ^= 1 + m.r.Uint64()>>1
	}
	return o
}

// edges are the numbers that are most likely to be taken for something else: for a length, or a part of a digest.
var edges = []uint64{0, 1, 2, 3, 4095, 4096, 4097, 1 << 32, 1 << 63, math.MaxUint64, 0xA4093822299F31D0}

// A maker makes the same lists and openings whenever the tests run.
type maker struct{ r *rand.Rand }

func newMaker(seed int64) maker { return maker{rand.New(rand.NewSource(seed))} }

func (m maker) list(n int) []uint64 {
	l := make([]uint64, n)
	for i := range l {
		if l[i] = m.r.Uint64(); m.r.Intn(3) == 0 {
			l[i] = edges[m.r.Intn(len(edges))]
		}
	}
	return l
}

// opening returns any opening of the right length.
func (m maker) opening(n, i int) api.Opening {
	return api.Opening{Leaf: m.list(1)[0], Path: m.list(len(aheads(n, i)))}
}

// places returns places of short lists, all of them, and some of long ones.
func (m maker) places() [][2]int {
	var out [][2]int
	for n := 1; n <= 40; n++ {
		for i := range n {
			out = append(out, [2]int{n, i})
		}
	}
	for _, n := range []int{63, 64, 65, 1000, 2047, 2048, 2049, 4095, 4096} {
		for _, i := range []int{0, 1, n / 2, n - 2, n - 1, m.r.Intn(n), m.r.Intn(n)} {
			out = append(out, [2]int{n, i})
		}
	}
	return out
}

// opened returns the opening of a place that is there.
func opened(t *testing.T, l []uint64, i int) api.Opening {
	t.Helper()
	path, e := merkle.Open(l, i)
	if e != api.OK {
		t.Fatalf("place %d of %d: Open gives %d", i, len(l), e)
	}
	return api.Opening{Leaf: l[i], Path: path}
}

func check(root uint64, n, i int, o api.Opening) api.Errno {
	return merkle.Check(root, n, i, o.Leaf, o.Path)
}
