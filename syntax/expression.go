package syntax

import (
	"strings"

	"parole/api"
)

func expressionWords() []string {
	return []string{"add", "sub", "mul", "div", "mod", "min", "max"}
}

func expression(x *api.Expr) part {
	form := later(func() []part { return []part{expressionForm(x)} })
	return part{
		read: func(r *reader) {
			x.Op = leafOp(r.next)
			form.read(r)
		},
		write: func(w *writer) {
			form.write(w)
			x.Op = 0
			w.need(isNoExpr(*x))
		},
	}
}

// expressionForm is the text of a leaf for its operator, and a group for all others.
func expressionForm(x *api.Expr) part {
	switch x.Op {
	case api.ENum:
		return numberPart(&x.V)
	case api.EVar:
		return indexPart("v", &x.N)
	case api.ELen:
		return indexPart("len", &x.N)
	}
	return group(opPart(&x.Op, api.EAdd, expressionWords()), times(2, &x.A, expression))
}

// leafOp returns the only operator of a leaf that the token can have, 0 if it begins a group.
func leafOp(token string) int {
	switch {
	case token == "(":
		return 0
	case strings.HasPrefix(token, "v"):
		return api.EVar
	case strings.HasPrefix(token, "len"):
		return api.ELen
	}
	return api.ENum
}

func isNoExpr(x api.Expr) bool { return x.Op == 0 && x.N == 0 && x.V == 0 && len(x.A) == 0 }

func conditionWords() []string { return []string{"lt", "le", "eq", "not", "and", "or"} }

func condition(c *api.Cond) part {
	form := later(func() []part { return []part{conditionForm(c)} })
	return part{
		read: func(r *reader) {
			if r.next != "(" {
				c.Op = api.CTrue
			}
			form.read(r)
		},
		write: func(w *writer) {
			form.write(w)
			c.Op = 0
			w.need(isNoCond(*c))
		},
	}
}

func conditionForm(c *api.Cond) part {
	if c.Op == api.CTrue {
		return wordPart("true")
	}
	return group(opPart(&c.Op, api.CLt, conditionWords()), later(func() []part { return operands(c) }))
}

func operands(c *api.Cond) []part {
	switch c.Op {
	case api.CNot:
		return []part{times(1, &c.C, condition)}
	case api.CAnd, api.COr:
		return []part{times(2, &c.C, condition)}
	}
	return []part{times(2, &c.A, expression)}
}

func isNoCond(c api.Cond) bool { return c.Op == 0 && len(c.A) == 0 && len(c.C) == 0 }
