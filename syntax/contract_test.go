package syntax_test

import (
	"reflect"
	"strings"
	"testing"

	"parole/api"
	"parole/syntax"
)

const example = `(def 7 9 "f" firm 1 part 2 budget 40 (params (0 5 0)) (given) vars 2 refs 0 (arrays (8 0))
  (set 10 v1 (add v0 3))
  (if 11 (lt v1 4)
    ((throw 12 2))
    ()))
`

// P5.1, E1, E2: the example of the chapter.
func TestExample(t *testing.T) {
	d := api.Def{
		Id: 7, Site: 9, Name: "f", Firm: 1, Part: 2, Budget: 40, Params: []api.Range{{Lo: 0, Hi: 5}}, Vars: 2, Arrays: []api.Array{{Len: 8}},
		Body: []api.Stmt{
			{Op: api.SSet, Site: 10, N: 1, X: api.Expr{Op: api.EAdd, A: []api.Expr{variable(0), num(3)}}},
			{Op: api.SIf, Site: 11, C: api.Cond{Op: api.CLt, A: []api.Expr{variable(1), num(4)}}, Body: []api.Stmt{{Op: api.SThrow, Site: 12, V: 2}}},
		},
	}
	prints(t, d, example)
	reads(t, example, d)
	refuses(t, `(def 7 9 f`, 9, api.ErrSyntax)
	refuses(t, `(def 07`, 5, api.ErrSyntax)
	refuses(t, ``, 0, api.ErrSyntax)
}

// P5.1, E1, E2: each field of a definition has its place.
func TestFields(t *testing.T) {
	d := api.Def{
		Id: 1, Site: -2, Name: "; (a)\t"[:5] + ` 'b' \`, Firm: 3, Part: 4, Budget: 5, Vars: 12, Refs: 13,
		Params: []api.Range{{Lo: -6, Hi: 7, Mask: 8}, {Lo: 1 << 62, Hi: -1 << 62}}, Given: []api.Range{{Lo: 9, Hi: 10, Mask: 11}},
		Arrays: []api.Array{{Len: 14, Of: 15}, {Len: 16, Of: 17}},
	}
	s := `(def 1 -2 "; (a) 'b' \" firm 3 part 4 budget 5 (params (-6 7 8) (4611686018427387904 -4611686018427387904 0)) (given (9 10 11)) vars 12 refs 13 (arrays (14 15) (16 17)))` + "\n"
	prints(t, d, s)
	reads(t, s, d)
	none := `(def 0 0 "" firm 0 part 0 budget 0 (params) (given) vars 0 refs 0 (arrays))` + "\n"
	prints(t, api.Def{}, none)
	reads(t, none, api.Def{})
}

const bare = `(def 0 0 "" firm 0 part 0 budget 0 (params) (given) vars 0 refs 0 (arrays)`

// means fails unless the text is that of the statement, on both ways.
func means(t *testing.T, text string, s api.Stmt) {
	t.Helper()
	whole := bare + "\n  " + text + ")\n"
	prints(t, holding(s), whole)
	reads(t, whole, holding(s))
}

// P5.1, E1, E2: all rows of the table that are statements.
func TestStatements(t *testing.T) {
	x, y, yes := variable(6), num(-8), api.Cond{Op: api.CTrue}
	use := func(n int) api.Stmt { return api.Stmt{Op: api.SUse, Site: n, M: n} }
	for _, c := range []struct {
		text string
		s    api.Stmt
	}{
		{"(set 1 v2 v6)", api.Stmt{Op: 1, Site: 1, N: 2, X: x}},
		{"(load 1 v2 a3 v6)", api.Stmt{Op: 2, Site: 1, N: 2, M: 3, X: x}},
		{"(store 1 a3 v6 -8)", api.Stmt{Op: 3, Site: 1, M: 3, X: x, Y: y}},
		{"(read 1 v2 g3)", api.Stmt{Op: 4, Site: 1, N: 2, M: 3}},
		{"(write 1 g3 v6)", api.Stmt{Op: 5, Site: 1, M: 3, X: x}},
		{"(new 1 r2)", api.Stmt{Op: 6, Site: 1, N: 2}},
		{"(free 1 r2)", api.Stmt{Op: 7, Site: 1, N: 2}},
		{"(move 1 r2 r3)", api.Stmt{Op: 8, Site: 1, N: 2, M: 3}},
		{"(put 1 r2 v6)", api.Stmt{Op: 9, Site: 1, N: 2, X: x}},
		{"(get 1 v2 r3)", api.Stmt{Op: 10, Site: 1, N: 2, M: 3}},
		{"(if 1 true\n    ()\n    ((use 2 p2)))", api.Stmt{Op: 11, Site: 1, C: yes, Else: []api.Stmt{use(2)}}},
		{"(if 1 true\n    ((use 2 p2)\n     (use 3 p3))\n    ())", api.Stmt{Op: 11, Site: 1, C: yes, Body: []api.Stmt{use(2), use(3)}}},
		{"(while 1 4 true\n    ((use 2 p2)))", api.Stmt{Op: 12, Site: 1, V: 4, C: yes, Body: []api.Stmt{use(2)}}},
		{"(call 1 v2 d3 (v6 -8) (r4 r5))", api.Stmt{Op: 13, Site: 1, N: 2, M: 3, Args: []api.Expr{x, y}, Ptrs: []int{4, 5}}},
		{"(call 1 none d3 () ())", api.Stmt{Op: 13, Site: 1, N: -1, M: 3}},
		{"(throw 1 -4)", api.Stmt{Op: 14, Site: 1, V: -4}},
		{"(try 1 v2\n    ()\n    ((use 2 p2)))", api.Stmt{Op: 15, Site: 1, N: 2, Else: []api.Stmt{use(2)}}},
		{"(try 1 none\n    ((use 2 p2))\n    ())", api.Stmt{Op: 15, Site: 1, N: -1, Body: []api.Stmt{use(2)}}},
		{"(lock 1 l3)", api.Stmt{Op: 16, Site: 1, M: 3}},
		{"(unlock 1 l3)", api.Stmt{Op: 17, Site: 1, M: 3}},
		{"(send 1 q3 v6)", api.Stmt{Op: 18, Site: 1, M: 3, X: x}},
		{"(recv 1 v2 q3)", api.Stmt{Op: 19, Site: 1, N: 2, M: 3}},
		{"(source 1 v2 c3)", api.Stmt{Op: 20, Site: 1, N: 2, M: 3}},
		{"(sink 1 k3 v6)", api.Stmt{Op: 21, Site: 1, M: 3, X: x}},
		{"(use 1 p3)", api.Stmt{Op: 22, Site: 1, M: 3}},
		{"(assert 1 true)", api.Stmt{Op: 23, Site: 1, C: yes}},
		{"(return 1 v6)", api.Stmt{Op: 24, Site: 1, X: x}},
	} {
		means(t, c.text, c.s)
	}
}

// P5.1, E1, E2: all rows of the table that are expressions or conditions.
func TestExpressionsAndConditions(t *testing.T) {
	x, y, c, d := api.Expr{Op: api.ELen, N: 3}, num(-8), api.Cond{Op: api.CTrue}, api.Cond{Op: api.CLt, A: []api.Expr{num(1), num(2)}}
	returns := func(text string, x api.Expr) { means(t, "(return 0 "+text+")", api.Stmt{Op: api.SReturn, X: x}) }
	returns("0", num(0))
	returns("-4611686018427387904", num(-1<<62))
	returns("4611686018427387904", num(1<<62))
	returns("v12", variable(12))
	returns("v4611686018427387904", variable(1<<62))
	returns("len3", x)
	for i, word := range []string{"add", "sub", "mul", "div", "mod", "min", "max"} {
		returns("("+word+" len3 -8)", api.Expr{Op: 4 + i, A: []api.Expr{x, y}})
	}
	asserts := func(text string, c api.Cond) { means(t, "(assert 0 "+text+")", api.Stmt{Op: api.SAssert, C: c}) }
	asserts("true", c)
	for i, word := range []string{"lt", "le", "eq"} {
		asserts("("+word+" len3 -8)", api.Cond{Op: 2 + i, A: []api.Expr{x, y}})
	}
	asserts("(not (lt 1 2))", api.Cond{Op: 5, C: []api.Cond{d}})
	asserts("(and true (lt 1 2))", api.Cond{Op: 6, C: []api.Cond{c, d}})
	asserts("(or (lt 1 2) true)", api.Cond{Op: 7, C: []api.Cond{d, c}})
}

// P5.1, E2: statements within each other have lines with more and more blanks.
func TestLines(t *testing.T) {
	s := strings.TrimSuffix(bare, "\n") + `
  (while 1 2 (le v0 len1)
    ((while 3 4 true
       ((if 5 true
          ((lock 6 l0)
           (unlock 7 l0))
          ((try 8 v0
             ()
             ((use 9 p0)
              (while 10 0 true
                ())
              (use 11 p0)))
           (use 12 p0)))))
     (use 13 p0)))
  (use 14 p0))
`
	d, at, e := syntax.Parse(s)
	if at != 0 || e != api.OK {
		t.Fatal(at, e)
	}
	prints(t, d, s)
}

// P5.1, E2: against a printer that works by the table of the chapter.
func TestPrintingIsExact(t *testing.T) {
	m := newMaker(1)
	for i := range 1500 {
		d := m.def(i % 6)
		if s := printed(d); len(s) <= api.MaxText {
			prints(t, d, s)
		} else {
			hasNoText(t, d, api.ErrBig)
		}
	}
}

// P5.1, E3: arguments are not modified, nor what stands behind them in memory, and results have memory of their own.
func TestNothingIsModified(t *testing.T) {
	m := newMaker(2)
	for range 300 {
		d := m.def(5)
		long := append(d.Body, api.Stmt{Op: api.SLock, Body: []api.Stmt{{Op: api.SUse}}})
		d.Body = long[:5]
		kept, keptLong := tidy(d), tidy(long)
		s, e := syntax.Print(d)
		if !reflect.DeepEqual(tidy(d), kept) || !reflect.DeepEqual(tidy(long), keptLong) {
			t.Fatalf("the argument has changed to\n%+v from\n%+v", d, kept)
		}
		if e != api.OK {
			continue
		}
		x, _, _ := syntax.Parse(s)
		spoil(x.Body)
		reads(t, s, kept)
	}
}

// spoil overwrites statements, and whatever stands behind them in their memory.
func spoil(l []api.Stmt) {
	for i := range l {
		spoil(l[i].Body)
		spoil(l[i].Else)
	}
	l = l[:cap(l)]
	for i := range l {
		l[i] = api.Stmt{Op: -1}
	}
}
