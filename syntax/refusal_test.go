package syntax_test

import (
	"math"
	"reflect"
	"slices"
	"strings"
	"testing"

	"parole/api"
	"parole/syntax"
)

// at calls f with what stands ahead of and behind each mark of a text, with filler for the other marks.
func at(text, filler string, f func(head, tail string)) {
	parts := strings.Split(text, "#")
	for i := 1; i < len(parts); i++ {
		f(strings.Join(parts[:i], filler), strings.Join(parts[i:], filler))
	}
}

// refusesAt fails unless each of the words is refused at each mark of a text that is right with filler there.
func refusesAt(t *testing.T, text, filler string, words ...string) {
	t.Helper()
	acceptsAt(t, text, filler, filler)
	at(text, filler, func(head, tail string) {
		for _, x := range words {
			refuses(t, head+x+tail, len(head), api.ErrSyntax)
		}
	})
}

// acceptsAt fails unless each of the words is read, and printed, at each mark.
func acceptsAt(t *testing.T, text, filler string, words ...string) {
	t.Helper()
	at(text, filler, func(head, tail string) {
		for _, x := range words {
			d, _, e := syntax.Parse(head + x + tail)
			if e != api.OK || tight(d) != head+x+tail {
				t.Fatalf("%q is read as %+v, %d", head+x+tail, d, e)
			}
		}
	})
}

// tightBare is what the tightest text of a definition without fields has ahead of its statements.
var tightBare = strings.TrimSuffix(tight(api.Def{}), ")")

const numbers = `(def # #"n"firm # part # budget #(params(# # #))(given(# # #))vars # refs #(arrays(# #))(set # v0 #)(while # # true())(throw # #)(return #(add # #)))`

// P5.6, E1: wrong numbers, wherever a number may stand.
func TestWrongNumbers(t *testing.T) {
	refusesAt(t, numbers, "0", strings.Fields(`-0 00 01 007 -01 -00 +1 +0 -- - 1- 1-1 1.0 1e3 0x1 0b1 1_0 ١ x 4611686018427387905 -4611686018427387905 9223372036854775807 -9223372036854775808 9223372036854775808 18446744073709551616 18446744073709551617 46116860184273879040 99999999999999999999999999999999999999999999 true none "1" v v01 len len01 a0 ) firm`)...)
	acceptsAt(t, numbers, "0", strings.Fields(`0 1 -1 10 -19 1000000 4611686018427387903 4611686018427387904 -4611686018427387904`)...)
}

// wrongIndices returns words that are no index with the letters.
func wrongIndices(letters string) []string {
	l := strings.Fields(strings.ReplaceAll(`x x-1 x-0 x00 x01 x+1 x1x x1.0 xx1 x_1 "x1" x4611686018427387905 x9223372036854775808 x18446744073709551616 X1 0x1`, "x", letters))
	l = append(l, strings.ToUpper(letters)+"1", "y1", "1x", "true", ")")
	return l
}

// P5.6, E1: wrong indices, wherever one may stand.
func TestWrongIndices(t *testing.T) {
	for _, c := range []struct{ letters, text string }{
		{"v", "(set 0 # 1)"}, {"v", "(set 0 v0 #)"}, {"len", "(set 0 v0 #)"}, {"v", "(load 0 # a1 2)"}, {"a", "(load 0 v1 # 2)"}, {"a", "(store 0 # 1 2)"}, {"v", "(store 0 a0 # #)"}, {"v", "(read 0 # g1)"}, {"g", "(read 0 v1 #)"}, {"g", "(write 0 # 1)"}, {"r", "(new 0 #)"}, {"r", "(free 0 #)"}, {"r", "(move 0 # #)"}, {"r", "(put 0 # 1)"}, {"v", "(get 0 # r1)"}, {"r", "(get 0 v1 #)"}, {"v", "(call 0 # d1()())"}, {"d", "(call 0 v1 #()())"}, {"r", "(call 0 v1 d1()(#))"}, {"v", "(call 0 v1 d1(#)())"}, {"v", "(try 0 #()())"}, {"l", "(lock 0 #)"}, {"l", "(unlock 0 #)"}, {"q", "(send 0 # 1)"}, {"v", "(recv 0 # q1)"}, {"q", "(recv 0 v1 #)"}, {"v", "(source 0 # c1)"}, {"c", "(source 0 v1 #)"}, {"k", "(sink 0 # 1)"}, {"p", "(use 0 #)"}, {"v", "(assert 0(lt # #))"}, {"len", "(return 0(max # #))"},
	} {
		text := tightBare + c.text + ")"
		words := wrongIndices(c.letters)
		if strings.HasSuffix(c.text, "(#))") || strings.Contains(c.text, "(#)") {
			words = slices.DeleteFunc(words, func(x string) bool { return x == ")" }) // which ends the list
		}
		refusesAt(t, text, c.letters+"1", words...)
		acceptsAt(t, text, c.letters+"1", c.letters+"0", c.letters+"9", c.letters+"10", c.letters+"4611686018427387904")
		for _, letters := range strings.Fields("v a g r d l q c k p len") {
			if value := c.letters == "v" || c.letters == "len"; letters != c.letters && !(value && (letters == "v" || letters == "len")) {
				refusesAt(t, text, c.letters+"1", letters+"1")
			}
		}
	}
	refusesAt(t, tightBare+"(set 0 # 1)(get 0 # r1)(source 0 # c1))", "v0", "len1", "none", "1", "(")
}

// P5.6, E1: words of the table in the places of others, and words that are none.
func TestWrongWords(t *testing.T) {
	for _, word := range strings.Fields("def firm part budget params given vars refs arrays") {
		for _, other := range strings.Fields("x Def FIRM deff de 1 def firm part budget params given vars refs arrays none ( )") {
			if i := strings.Index(bare, word); other != word {
				refuses(t, bare[:i]+other+bare[i+len(word):]+")", i, api.ErrSyntax)
			}
		}
	}
	refusesAt(t, tightBare+"(# 0 p0))", "use", strings.Fields(`add lt true none def Set sets se no 22 "use" use0 ( )`)...)
	refusesAt(t, tightBare+"(return 0(# 1 2)))", "add", strings.Fields(`set lt true none pow Add ad addd num var len v0 0 4 "add" ( )`)...)
	refusesAt(t, tightBare+"(assert 0(# 1 2)))", "lt", strings.Fields(`set add true none gt ge ne neq LT 2 "lt" ( )`)...)
	refusesAt(t, tightBare+"(assert 0 #)(if 0 #()())(while 0 1 #()))", "true", strings.Fields(`false True 1 0 v0 "true" not none )`)...)
	refusesAt(t, tightBare+"(call 0 # d0()())(try 0 #()()))", "none", strings.Fields(`None nothing -1 v-1 0 r0 "none" ( )`)...)
}

// P5.6, E1, E2: names may have all bytes from 32 to 126 but quotation marks, and no others.
func TestNames(t *testing.T) {
	for c := range 256 {
		for _, name := range []string{string([]byte{byte(c)}), "ab" + string([]byte{byte(c)}), strings.Repeat("x", 39) + string([]byte{byte(c)})} {
			d := api.Def{Name: name}
			if c >= 32 && c <= 126 && c != '"' {
				prints(t, d, printed(d))
				reads(t, printed(d), d)
				continue
			}
			hasNoText(t, d, api.ErrSyntax)
			if s := printed(d); c == '"' { // which ends the name
				refuses(t, s, 10+len(name), api.ErrSyntax)
			} else {
				refuses(t, s, 9, api.ErrSyntax)
			}
		}
	}
	for n := range 100 {
		d := api.Def{Name: strings.Repeat("n", n)}
		if n <= 40 {
			prints(t, d, printed(d))
			reads(t, printed(d), d)
		} else {
			hasNoText(t, d, api.ErrSyntax)
			refuses(t, printed(d), 9, api.ErrSyntax)
		}
	}
	hasNoText(t, api.Def{Name: "é"}, api.ErrSyntax)
	hasNoText(t, api.Def{Name: strings.Repeat("é", 20)}, api.ErrSyntax)
}

// integers calls f with each integer of x, wherever it stands.
func integers(x reflect.Value, f func(n reflect.Value)) {
	switch x.Kind() {
	case reflect.Int:
		f(x)
	case reflect.Struct:
		for i := range x.NumField() {
			integers(x.Field(i), f)
		}
	case reflect.Slice:
		for i := range x.Len() {
			integers(x.Index(i), f)
		}
	}
}

// P5.6, E2: no integer, wherever it stands, may be greater than 2^62 in size.
func TestNumbersOutOfRange(t *testing.T) {
	m := newMaker(21)
	for i := range 60 {
		d := tidy(m.def(i % 4))
		integers(reflect.ValueOf(&d).Elem(), func(n reflect.Value) {
			kept := n.Int()
			for _, v := range []int64{1<<62 + 1, -1<<62 - 1, math.MaxInt, math.MinInt} {
				n.SetInt(v)
				hasNoText(t, d, api.ErrSyntax)
			}
			n.SetInt(kept)
		})
		if len(printed(d)) <= api.MaxText {
			prints(t, d, printed(d))
		}
	}
}

// uses says whether the text of a statement with this operator mentions the field.
func uses(op int, field string) bool {
	if field == "Site" || field == "Op" {
		return true
	}
	return slices.ContainsFunc(strings.Fields(statements()[op])[1:], func(part string) bool {
		return part == field || field == "N" && part == "W" || len(part) == 2 && part[1:] == field
	})
}

// leftovers are values that are not zero, for the types of fields.
func leftovers(of reflect.Type) []any {
	switch of {
	case reflect.TypeFor[int]():
		return []any{1, -1}
	case reflect.TypeFor[api.Expr]():
		return []any{num(0), api.Expr{N: 1}, api.Expr{V: 1}, api.Expr{Op: -1}, api.Expr{A: make([]api.Expr, 1)}}
	case reflect.TypeFor[api.Cond]():
		return []any{api.Cond{Op: api.CTrue}, api.Cond{Op: -1}, api.Cond{A: make([]api.Expr, 1)}, api.Cond{C: make([]api.Cond, 1)}}
	case reflect.TypeFor[[]api.Expr]():
		return []any{make([]api.Expr, 1), []api.Expr{num(1)}}
	case reflect.TypeFor[[]api.Cond]():
		return []any{make([]api.Cond, 1), []api.Cond{{Op: api.CTrue}}}
	case reflect.TypeFor[[]int]():
		return []any{[]int{0}}
	}
	return []any{make([]api.Stmt, 1), []api.Stmt{{Op: api.SUse}}}
}

// fill calls f for each value that a field, which should be zero, has instead.
func fill(field reflect.Value, f func()) {
	for _, v := range leftovers(field.Type()) {
		field.Set(reflect.ValueOf(v))
		f()
	}
	field.SetZero()
}

// P5.6, E2: fields that are not mentioned for an operator must be zero.
func TestLeftoversInStatements(t *testing.T) {
	m := newMaker(22)
	for op := api.SSet; op <= api.SReturn; op++ {
		s := m.stmt(1, op)
		fields := reflect.ValueOf(&s).Elem()
		for i := range fields.NumField() {
			if name := fields.Type().Field(i).Name; !uses(op, name) {
				fill(fields.Field(i), func() {
					hasNoText(t, holding(s), api.ErrSyntax)
					hasNoText(t, holding(api.Stmt{Op: api.STry, Else: []api.Stmt{{Op: api.SUse}, s}}), api.ErrSyntax)
				})
			}
		}
		prints(t, holding(s), printed(holding(s)))
	}
}

// P5.6, E2: the same for expressions.
func TestLeftoversInExpressions(t *testing.T) {
	two := []api.Expr{num(1), variable(2)}
	for _, c := range []struct {
		x      api.Expr
		unused string
	}{
		{num(3), "N A"}, {num(0), "N A"}, {variable(3), "V A"}, {api.Expr{Op: api.ELen, N: 3}, "V A"}, {api.Expr{Op: api.EAdd, A: two}, "N V"}, {api.Expr{Op: api.EMod, A: two}, "N V"}, {api.Expr{Op: api.EMax, A: two}, "N V"},
	} {
		x := c.x
		for _, field := range strings.Fields(c.unused) {
			fill(reflect.ValueOf(&x).Elem().FieldByName(field), func() { refusesExpr(t, x) })
		}
		for _, n := range []int{-1, -2, math.MinInt, 1<<62 + 1} {
			if strings.Contains(c.unused, "V A") {
				refusesExpr(t, api.Expr{Op: x.Op, N: n})
			}
		}
	}
	for op := -2; op < 14; op++ {
		for n := range 4 {
			if op >= api.EAdd && op <= api.EMax && n == 2 || n == 0 && op >= api.ENum && op <= api.ELen {
				continue
			}
			refusesExpr(t, api.Expr{Op: op, A: slices.Repeat([]api.Expr{num(1)}, n)})
		}
	}
	for _, op := range []int{api.EAdd, api.EMax} {
		refusesExpr(t, api.Expr{Op: op, A: make([]api.Expr, 2)})
		refusesExpr(t, api.Expr{Op: op, A: []api.Expr{num(1), {}}})
	}
}

// refusesExpr fails if the expression has a text, wherever expressions are.
func refusesExpr(t *testing.T, x api.Expr) {
	t.Helper()
	one, yes := num(1), api.Cond{Op: api.CTrue}
	for _, s := range []api.Stmt{
		{Op: api.SSet, X: x}, {Op: api.SLoad, X: x}, {Op: api.SStore, X: x, Y: one}, {Op: api.SStore, X: one, Y: x}, {Op: api.SWrite, X: x}, {Op: api.SPut, X: x}, {Op: api.SSend, X: x}, {Op: api.SSink, X: x}, {Op: api.SReturn, X: x},
		{Op: api.SCall, Args: []api.Expr{one, x}},
		{Op: api.SReturn, X: api.Expr{Op: api.ESub, A: []api.Expr{one, x}}},
		{Op: api.SAssert, C: api.Cond{Op: api.CEq, A: []api.Expr{x, one}}},
		{Op: api.SIf, C: api.Cond{Op: api.CAnd, C: []api.Cond{yes, {Op: api.CLe, A: []api.Expr{one, x}}}}},
	} {
		hasNoText(t, holding(s), api.ErrSyntax)
	}
}

// P5.6, E2: the same for conditions.
func TestLeftoversInConditions(t *testing.T) {
	one, yes := num(1), api.Cond{Op: api.CTrue}
	for op := -2; op < 11; op++ {
		for n := range 4 {
			for k := range 4 {
				compares, joins := op >= api.CLt && op <= api.CEq, op == api.CAnd || op == api.COr
				plain := op == api.CTrue && n == 0 && k == 0 || compares && n == 2 && k == 0 || op == api.CNot && n == 0 && k == 1 || joins && n == 0 && k == 2
				c := api.Cond{Op: op, A: slices.Repeat([]api.Expr{one}, n), C: slices.Repeat([]api.Cond{yes}, k)}
				for _, s := range []api.Stmt{{Op: api.SAssert, C: c}, {Op: api.SIf, C: c}, {Op: api.SWhile, C: c}, {Op: api.SAssert, C: api.Cond{Op: api.CNot, C: []api.Cond{c}}}, {Op: api.SAssert, C: api.Cond{Op: api.COr, C: []api.Cond{yes, c}}}} {
					if plain {
						prints(t, holding(s), printed(holding(s)))
					} else {
						hasNoText(t, holding(s), api.ErrSyntax)
					}
				}
			}
		}
	}
}

// P5.6, E2: other operators, and indices that are negative.
func TestWrongStatements(t *testing.T) {
	m := newMaker(23)
	for _, op := range []int{0, -1, 25, 26, 100, math.MaxInt, math.MinInt} {
		hasNoText(t, holding(api.Stmt{Op: op}), api.ErrSyntax)
		hasNoText(t, holding(api.Stmt{Op: api.SWhile, C: api.Cond{Op: api.CTrue}, Body: []api.Stmt{{Op: api.SUse}, {Op: op}}}), api.ErrSyntax)
	}
	for op := api.SSet; op <= api.SReturn; op++ {
		s := m.stmt(1, op)
		target := strings.Contains(statements()[op], "W")
		for _, n := range []int{-1, -2, -1 << 62} {
			if x := s; uses(op, "N") && !(target && n == -1) {
				x.N = n
				hasNoText(t, holding(x), api.ErrSyntax)
			}
			if x := s; uses(op, "M") {
				x.M = n
				hasNoText(t, holding(x), api.ErrSyntax)
			}
			if x := s; uses(op, "Ptrs") {
				x.Ptrs = []int{0, n}
				hasNoText(t, holding(x), api.ErrSyntax)
			}
		}
	}
}
