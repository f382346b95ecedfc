package merkle

import (
	"iter"

	"parole/api"
	"parole/digest"
)

func join(pair [2]uint64) uint64 { return digest.Join(pair[0], pair[1]) }

// pairs yields the pairs whose digests are the tops on the way up from the place i of n, and at last the one whose digest is the root. It requires a path of the right length.
func pairs(n, i int, o api.Opening) iter.Seq[[2]uint64] {
	return func(yield func([2]uint64) bool) {
		pair, rest := [2]uint64{0, o.Leaf}, o.Path
		for s := range siblings(n, i) {
			if !yield(pair) {
				return
			}
			pair = beside(join(pair), rest[0], s.ahead)
			rest = rest[1:]
		}
		if yield(pair) {
			yield([2]uint64{uint64(n), join(pair)})
		}
	}
}

// beside returns the top and its sibling's in the order of their places.
func beside(top, other uint64, ahead bool) [2]uint64 {
	if ahead {
		return [2]uint64{other, top}
	}
	return [2]uint64{top, other}
}

// rootOf folds the pairs: the digest of the last one is the root to which the opening leads.
func rootOf(n, i int, o api.Opening) uint64 {
	root := uint64(0)
	for pair := range pairs(n, i, o) {
		root = join(pair)
	}
	return root
}
