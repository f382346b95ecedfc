package syntax

import "parole/api"

// A reader goes through a text from token to token. It panics at the first wrong one.
type reader struct {
	text string
	at   int    // where the next token is
	next string // "" at the end
	open int    // parentheses that are not closed
}

func newReader(text string) *reader {
	r := &reader{text: text}
	r.find()
	return r
}

// find looks for the next token behind what has been read. A parenthesis that is too deep is refused here, as it is refused wherever it stands.
func (r *reader) find() {
	r.at += spaces(r.text[r.at:])
	r.next = token(r.text[r.at:])
	if r.next == "(" && r.open == maxOpen {
		panic(wrong{r.at, api.ErrBig})
	}
}

func (r *reader) need(right bool) {
	if !right {
		panic(wrong{r.at, api.ErrSyntax})
	}
}

// accept goes on behind the next token. All that is to be said against it must have been said.
func (r *reader) accept() {
	switch r.next {
	case "(":
		r.open++
	case ")":
		r.open--
	}
	r.at += len(r.next)
	r.find()
}

func (r *reader) take(token string) {
	r.need(r.next == token)
	r.accept()
}
