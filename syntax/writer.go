package syntax

import (
	"strings"

	"parole/api"
)

// A writer puts tokens together. It panics at the first part that has no text; of a text that is too big it keeps nothing more, but goes on, as there may be such a part.
type writer struct {
	text   []byte
	open   int // parentheses that are not closed
	indent int // blanks ahead of a statement
	big    bool
}

func (w *writer) need(plain bool) {
	if !plain {
		panic(wrong{e: api.ErrSyntax})
	}
}

func (w *writer) add(s string) {
	w.big = w.big || len(w.text)+len(s) > api.MaxText
	if !w.big {
		w.text = append(w.text, s...)
	}
}

// line begins a line, whatever the next token is.
func (w *writer) line(blanks int) {
	if !w.big { // which also bounds the blanks
		w.add("\n" + strings.Repeat(" ", blanks))
	}
}

func (w *writer) put(token string) {
	if token != ")" && !w.ends(" (") {
		w.add(" ")
	}
	switch token {
	case "(":
		w.big = w.big || w.open == maxOpen
		w.open++
	case ")":
		w.open--
	}
	w.add(token)
}

// ends says whether the text ends with one of the characters, or has not begun. No token ends with a blank.
func (w *writer) ends(characters string) bool {
	return len(w.text) == 0 || strings.IndexByte(characters, w.text[len(w.text)-1]) >= 0
}
