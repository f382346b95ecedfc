package shape

import (
	"iter"

	"parole/api"
)

// statements yields all statements of a list with their depths, each ahead of those of its Body, and these ahead of those of its Else. It goes no further than the loop does, which may so end at what is too deep.
func statements(l []api.Stmt) iter.Seq2[int, api.Stmt] {
	return func(yield func(int, api.Stmt) bool) { visit(l, 1, yield) }
}

// visit returns false if no more statements are wanted.
func visit(l []api.Stmt, depth int, yield func(int, api.Stmt) bool) bool {
	for _, s := range l {
		if !yield(depth, s) || !visit(s.Body, depth+1, yield) || !visit(s.Else, depth+1, yield) {
			return false
		}
	}
	return true
}
