package syntax_test

import (
	"strings"
	"testing"

	"parole/api"
	"parole/syntax"
)

// P5.7, E1: texts of at most 20000 bytes are read, whatever their bytes are.
func TestLongTextsAreRefused(t *testing.T) {
	d := newMaker(31).def(3)
	s := printed(d)
	for _, pad := range []string{" ", "\n", "\t", ";"} {
		full := strings.Repeat(pad, api.MaxText-len(s))
		reads(t, s+full, d)
		refuses(t, s+full+pad, 0, api.ErrBig)
		if pad != ";" {
			reads(t, full+s, d)
			refuses(t, full+pad+s, 0, api.ErrBig)
		}
	}
	for _, c := range []string{" ", "x", "(", ")", "\"", ";"} { // the length comes first
		refuses(t, strings.Repeat(c, api.MaxText+1), 0, api.ErrBig)
		refuses(t, strings.Repeat(c, 3*api.MaxText), 0, api.ErrBig)
	}
	refuses(t, strings.Repeat(" ", api.MaxText), api.MaxText, api.ErrSyntax)
	refuses(t, strings.Repeat("x", api.MaxText), 0, api.ErrSyntax)
	refuses(t, strings.Repeat(" ", api.MaxText-1)+"(", api.MaxText, api.ErrSyntax)
	refuses(t, s+strings.Repeat(" ", api.MaxText-len(s)-1)+"(", api.MaxText-1, api.ErrSyntax)
}

// ofLength returns a definition whose printed text has n bytes.
func ofLength(n int) api.Def {
	use := api.Stmt{Op: api.SUse, Site: 1, M: 1}
	d := api.Def{}
	n -= len(printed(d))
	for ; n >= 13; n -= 13 {
		d.Body = append(d.Body, use)
	}
	d.Name = strings.Repeat("n", n)
	return d
}

// P5.7, E2: printed texts have at most 20000 bytes, the last line feed among them.
func TestLongDefinitionsAreRefused(t *testing.T) {
	for n := api.MaxText - 30; n <= api.MaxText+30; n++ {
		d := ofLength(n)
		if n > api.MaxText {
			hasNoText(t, d, api.ErrBig)
			continue
		}
		prints(t, d, printed(d))
		reads(t, printed(d), d)
	}
	hasNoText(t, ofLength(100*api.MaxText), api.ErrBig)
}

// P5.7, P5.4: what is read may have a printed text that is too long.
func TestReadButNotPrinted(t *testing.T) {
	s := tightBare + strings.Repeat("(use 1 p1)", 1900) + ")"
	d, at, e := syntax.Parse(s)
	if at != 0 || e != api.OK || len(d.Body) != 1900 || len(printed(d)) <= api.MaxText {
		t.Fatal(at, e, len(d.Body))
	}
	hasNoText(t, d, api.ErrBig)
}

// P5.6, P5.7, E2: a definition that is not plain has no text, however long or deep it is.
func TestNotPlainComesFirst(t *testing.T) {
	wrong := api.Stmt{Op: api.SUse, N: 1}
	long := ofLength(3 * api.MaxText)
	long.Body[len(long.Body)-1] = wrong
	hasNoText(t, long, api.ErrSyntax)
	long.Body[len(long.Body)-1] = api.Stmt{Op: api.SReturn}
	hasNoText(t, long, api.ErrSyntax)
	for _, n := range []int{60, 300, 1000} {
		x := api.Expr{Op: api.EAdd, A: []api.Expr{deepExpr(n), {}}}
		hasNoText(t, holding(api.Stmt{Op: api.SReturn, X: x}), api.ErrSyntax)
		deep := deepBlocks(n, api.SIf)
		deep.Body = append(deep.Body, wrong)
		hasNoText(t, deep, api.ErrSyntax)
		deep.Body[1] = api.Stmt{Op: api.SUse}
		hasNoText(t, deep, api.ErrBig)
	}
}

// deepBlocks has n statements within each other, and so 2 n + 1 parentheses.
func deepBlocks(n, op int) api.Def {
	var l []api.Stmt
	for range n {
		l = []api.Stmt{{Op: op, C: api.Cond{Op: api.CTrue}, Body: l}}
		if op == api.STry {
			l[0].C = api.Cond{}
		}
	}
	return api.Def{Body: l}
}

func deepCond(n int) api.Cond {
	c := api.Cond{Op: api.CTrue}
	for range n {
		c = api.Cond{Op: api.CNot, C: []api.Cond{c}}
	}
	return c
}

// lastDeep is the offset of the first parenthesis that stands in 60 others.
func lastDeep(s string) int {
	open := 0
	for i, c := range []byte(s) {
		switch c {
		case '(':
			if open == 60 {
				return i
			}
			open++
		case ')':
			open--
		}
	}
	return -1
}

// P5.7, E1, E2: no parenthesis stands in 60 others, whatever they are for.
func TestDeepParenthesesAreRefused(t *testing.T) {
	for n := 55; n < 66; n++ {
		for _, c := range []struct {
			d    api.Def
			deep int // parentheses within each other
		}{
			{holding(api.Stmt{Op: api.SReturn, X: deepExpr(n)}), n + 2},
			{holding(api.Stmt{Op: api.SAssert, C: deepCond(n)}), n + 2},
			{holding(api.Stmt{Op: api.SAssert, C: api.Cond{Op: api.CEq, A: []api.Expr{deepExpr(n), num(0)}}}), n + 3},
			{holding(api.Stmt{Op: api.SCall, Args: []api.Expr{num(0), deepExpr(n), num(0)}}), n + 3},
			{deepBlocks(n-28, api.SIf), 2*(n-28) + 1},
			{deepBlocks(n-28, api.SWhile), 2*(n-28) + 1},
			{deepBlocks(n-28, api.STry), 2*(n-28) + 1},
		} {
			s := printed(c.d)
			if c.deep <= 60 {
				prints(t, c.d, s)
				reads(t, s, c.d)
				continue
			}
			hasNoText(t, c.d, api.ErrBig)
			refuses(t, s, lastDeep(s), api.ErrBig)
			refuses(t, s[:lastDeep(s)+1], lastDeep(s), api.ErrBig)
			refuses(t, s[:lastDeep(s)], lastDeep(s), api.ErrSyntax)
		}
	}
}

// P5.7, E1: a parenthesis in 60 others is too deep even if it is wrong there, but not behind a wrong token.
func TestDeepOrWrong(t *testing.T) {
	full := bare + " (return 1 " + strings.Repeat("(add 1 ", 58) // 60 are open
	n := len(full)
	refuses(t, full, n, api.ErrSyntax)
	refuses(t, full+"(", n, api.ErrBig)
	refuses(t, full+"((", n, api.ErrBig)
	refuses(t, full+"x (", n, api.ErrSyntax)
	refuses(t, full+") (", n, api.ErrSyntax)
	refuses(t, full+"\" (", n, api.ErrSyntax)
	refuses(t, full+"1 (", n+2, api.ErrBig)     // where only ")" is right
	refuses(t, full+"1) (", n+3, api.ErrSyntax) // 59 are open
	refuses(t, full+"; (\n(", n+4, api.ErrBig)
	refuses(t, full+"; (\n1 ; (((\n 2", n+13, api.ErrSyntax)
	refuses(t, strings.Replace(full, "(add 1 (", "(add x (", 1), strings.Index(full, "1 (add")+7, api.ErrSyntax)
	refuses(t, strings.Repeat("(", 100), 1, api.ErrSyntax)
	closed := bare + strings.Repeat(" (return 1 (add (sub 1 2) (mul 3 4)))", 100) // which are closed, and do not count
	if _, at, e := syntax.Parse(closed + ")"); at != 0 || e != api.OK {
		t.Fatal(at, e)
	}
	strung := strings.Replace(full, `""`, `"((((((((((((((((((((((((((((((((((((((("`, 1) // nor do those of strings
	refuses(t, strung, len(strung), api.ErrSyntax)
	refuses(t, strung+"(", len(strung), api.ErrBig)
}

// P5.7, E2: as deep as inputs may be.
func TestVeryDeep(t *testing.T) {
	const n = 1<<16 - 10
	for _, d := range []api.Def{holding(api.Stmt{Op: api.SReturn, X: deepExpr(n)}), holding(api.Stmt{Op: api.SAssert, C: deepCond(n)}), deepBlocks(n, api.STry)} {
		if s, e := syntax.Print(d); s != "" || e != api.ErrBig {
			t.Errorf("%q, %d", s, e)
		}
	}
}
