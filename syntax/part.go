package syntax

import (
	"slices"
	"strconv"
	"strings"
)

// A part of a definition is read and written by closures that know where it is kept.
//
// What is written is taken away from there, which must be a copy: so what is left in the end is what has no place in a text.
type part struct {
	read  func(r *reader)
	write func(w *writer)
}

func wordPart(word string) part {
	return part{
		read:  func(r *reader) { r.take(word) },
		write: func(w *writer) { w.put(word) },
	}
}

func numberPart(n *int) part {
	return part{
		read: func(r *reader) {
			v, ok := number(r.next)
			r.need(ok)
			*n = v
			r.accept()
		},
		write: func(w *writer) {
			w.need(isNumber(*n))
			w.put(strconv.Itoa(*n))
			*n = 0
		},
	}
}

func indexPart(letters string, n *int) part {
	return part{
		read: func(r *reader) {
			v, ok := index(letters, r.next)
			r.need(ok)
			*n = v
			r.accept()
		},
		write: func(w *writer) {
			w.need(isIndex(*n))
			w.put(indexWord(letters, *n))
			*n = 0
		},
	}
}

// targetPart is a variable, or none.
func targetPart(n *int) part {
	variable := indexPart("v", n)
	return part{
		read: func(r *reader) {
			if r.next == "none" {
				*n = -1
				r.accept()
				return
			}
			variable.read(r)
		},
		write: func(w *writer) {
			if *n == -1 {
				w.put("none")
				*n = 0
				return
			}
			variable.write(w)
		},
	}
}

func namePart(name *string) part {
	return part{
		read: func(r *reader) {
			r.need(len(r.next) >= 2 && r.next[0] == '"')
			s := r.next[1 : len(r.next)-1]
			r.need(isName(s))
			*name = strings.Clone(s) // so that a definition does not keep the whole text
			r.accept()
		},
		write: func(w *writer) {
			w.need(isName(*name))
			w.put(`"` + *name + `"`)
			*name = ""
		},
	}
}

// opPart is a word for an operator, of which the first one has the number first. It is not taken away, as the other parts depend on it.
func opPart(op *int, first int, words []string) part {
	return part{
		read: func(r *reader) {
			i := slices.Index(words, r.next)
			r.need(i >= 0)
			*op = first + i
			r.accept()
		},
		write: func(w *writer) {
			w.need(first <= *op && *op < first+len(words))
			w.put(words[*op-first])
		},
	}
}

// group is a pair of parentheses with what they contain.
func group(parts ...part) part {
	return part{
		read: func(r *reader) {
			r.take("(")
			for _, p := range parts {
				p.read(r)
			}
			r.take(")")
		},
		write: func(w *writer) {
			w.put("(")
			for _, p := range parts {
				p.write(w)
			}
			w.put(")")
		},
	}
}

// later is for parts that depend on what stands ahead of them.
func later(parts func() []part) part {
	return part{
		read: func(r *reader) {
			for _, p := range parts() {
				p.read(r)
			}
		},
		write: func(w *writer) {
			for _, p := range parts() {
				p.write(w)
			}
		},
	}
}

// many are elements up to the end of a group.
func many[T any](l *[]T, of func(*T) part) part {
	return part{
		read: func(r *reader) {
			for r.next != ")" {
				*l = append(*l, readOne(r, of))
			}
		},
		write: func(w *writer) {
			for _, x := range *l {
				of(&x).write(w) // x is a copy, so that the argument keeps it
			}
			*l = nil
		},
	}
}

// times are n elements.
func times[T any](n int, l *[]T, of func(*T) part) part {
	all := many(l, of)
	return part{
		read: func(r *reader) {
			for range n {
				*l = append(*l, readOne(r, of))
			}
		},
		write: func(w *writer) {
			w.need(len(*l) == n)
			all.write(w)
		},
	}
}

func readOne[T any](r *reader, of func(*T) part) T {
	var x T
	of(&x).read(r)
	return x
}
