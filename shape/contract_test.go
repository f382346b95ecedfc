package shape_test

import (
	"reflect"
	"slices"
	"strings"
	"testing"

	"parole/api"
	"parole/shape"
)

// P6.1: the example of the chapter.
func TestExample(t *testing.T) {
	d := api.Def{Id: 7, Site: 9, Name: "f", Vars: 1, Budget: 2, Body: []api.Stmt{
		{Site: 1, Op: api.SSet, N: 0, X: num(5)}, {Site: 2, Op: api.SReturn, X: variable(0)},
	}}
	accepts(t, d)
	if l := shape.Sites(d); !slices.Equal(l, []int{1, 2, 9}) {
		t.Error(l)
	}
	d.Params = []api.Range{{}}
	refuses(t, d)
}

// P6.1, F1: a declaration on both sides of each limit.
func TestDecl(t *testing.T) {
	ranges := func(n int) []api.Range { return make([]api.Range, n) }
	queues := func(n int) []api.Queue { return slices.Repeat([]api.Queue{{Cap: 1}}, n) }
	for i, c := range []struct {
		change func(d *api.Decl)
		right  bool
	}{
		{func(d *api.Decl) {}, true},
		{func(d *api.Decl) { *d = api.Decl{Parts: 1, Firms: 1} }, true},
		{func(d *api.Decl) { *d = api.Decl{} }, false},
		{func(d *api.Decl) { d.Globals = ranges(8) }, true}, {func(d *api.Decl) { d.Globals = ranges(9) }, false},
		{func(d *api.Decl) { d.Classes = ranges(8) }, true}, {func(d *api.Decl) { d.Classes = ranges(9) }, false},
		{func(d *api.Decl) { d.Queues = queues(4) }, true}, {func(d *api.Decl) { d.Queues = queues(5) }, false},
		{func(d *api.Decl) { d.Sinks = make([]int, 8) }, true}, {func(d *api.Decl) { d.Sinks = make([]int, 9) }, false},
		{func(d *api.Decl) { d.Sinks[3] = 256 }, false}, {func(d *api.Decl) { d.Sinks[3] = -1 }, false}, {func(d *api.Decl) { d.Sinks[3] = 255 }, true},
		{func(d *api.Decl) { d.Queues[0].Cap = 0 }, false}, {func(d *api.Decl) { d.Queues[0].Cap = 1 }, true}, {func(d *api.Decl) { d.Queues[0].Cap = 16 }, true}, {func(d *api.Decl) { d.Queues[0].Cap = 17 }, false},
		{func(d *api.Decl) { d.Queues[0].R.Lo = 2 }, false}, {func(d *api.Decl) { d.Queues[0].R.Mask = 256 }, false},
		{func(d *api.Decl) { d.Locks = 0 }, true}, {func(d *api.Decl) { d.Locks = 8 }, true}, {func(d *api.Decl) { d.Locks = 9 }, false}, {func(d *api.Decl) { d.Locks = -1 }, false},
		{func(d *api.Decl) { d.Parts = 1 }, true}, {func(d *api.Decl) { d.Parts = 16 }, true}, {func(d *api.Decl) { d.Parts = 17 }, false}, {func(d *api.Decl) { d.Parts = 0 }, false},
		{func(d *api.Decl) { d.Firms = 1 }, true}, {func(d *api.Decl) { d.Firms = 8 }, true}, {func(d *api.Decl) { d.Firms = 9 }, false}, {func(d *api.Decl) { d.Firms = 0 }, false},
	} {
		d := decl()
		c.change(&d)
		if e := shape.Decl(d); (e == api.OK) != c.right || e != api.OK && e != api.ErrShape {
			t.Errorf("case %d: %d", i, e)
		}
	}
}

// P6.1, F1: ranges wherever they stand.
func TestRanges(t *testing.T) {
	for i, c := range []struct {
		r     api.Range
		right bool
	}{
		{api.Range{}, true}, {api.Range{Lo: api.MinInt, Hi: api.MaxInt, Mask: 255}, true}, {api.Range{Lo: api.MaxInt, Hi: api.MaxInt}, true}, {api.Range{Lo: api.MinInt, Hi: api.MinInt}, true},
		{api.Range{Lo: 1}, false}, {api.Range{Lo: api.MinInt - 1}, false}, {api.Range{Hi: api.MaxInt + 1}, false}, {api.Range{Mask: -1}, false}, {api.Range{Mask: 256}, false},
		{api.Range{Lo: -1 << 63, Hi: 1<<63 - 1}, false}, {api.Range{Lo: 1 << 32, Hi: 1 << 32}, false},
	} {
		want := api.OK
		if !c.right {
			want = api.ErrShape
		}
		for k := range 3 {
			x := decl()
			*[]*api.Range{&x.Globals[1], &x.Classes[2], &x.Queues[0].R}[k] = c.r
			if e := shape.Decl(x); e != want {
				t.Errorf("case %d: %d in a declaration, at %d", i, e, k)
			}
		}
		for k := range 2 {
			d := holding()
			*[]*api.Range{&d.Params[0], &d.Given[0]}[k] = c.r
			if e := shape.Def(d, decl()); e != want {
				t.Errorf("case %d: %d in a definition, at %d", i, e, k)
			}
			h := shape.Head(d)
			h.Id = 8
			if e := shape.Program(api.Program{D: decl(), Heads: []api.Head{h}}); e != want {
				t.Errorf("case %d: %d in a head, at %d", i, e, k)
			}
		}
	}
}

// P6.1, F1: a definition on both sides of each limit.
func TestDef(t *testing.T) {
	many := func(n int) []api.Range { return make([]api.Range, n) }
	type change = func(d *api.Def)
	for i, c := range []struct {
		right, wrong []change
	}{
		{[]change{func(d *api.Def) { d.Id = 1 }, func(d *api.Def) { d.Id = maxId }}, []change{func(d *api.Def) { d.Id = 0 }, func(d *api.Def) { d.Id = -1 }, func(d *api.Def) { d.Id = maxId + 1 }}},
		{[]change{func(d *api.Def) { d.Site = 1 }, func(d *api.Def) { d.Site = maxId }}, []change{func(d *api.Def) { d.Site = 0 }, func(d *api.Def) { d.Site = maxId + 1 }}},
		{[]change{func(d *api.Def) { d.Firm = 0 }, func(d *api.Def) { d.Firm = 6 }}, []change{func(d *api.Def) { d.Firm = -1 }, func(d *api.Def) { d.Firm = 7 }}},
		{[]change{func(d *api.Def) { d.Part = 0 }, func(d *api.Def) { d.Part = 5 }}, []change{func(d *api.Def) { d.Part = -1 }, func(d *api.Def) { d.Part = 6 }}},
		{[]change{func(d *api.Def) { d.Vars = 1 }, func(d *api.Def) { d.Vars = 12 }, func(d *api.Def) { d.Params, d.Vars = many(12), 12 }}, []change{func(d *api.Def) { d.Vars = 0 }, func(d *api.Def) { d.Vars = 13 }, func(d *api.Def) { d.Params, d.Vars = many(13), 13 }, func(d *api.Def) { d.Params = many(4) }}},
		{[]change{func(d *api.Def) { d.Params, d.Vars, d.Arrays = nil, 0, nil }}, []change{func(d *api.Def) { d.Params, d.Vars, d.Arrays = nil, -1, nil }}},
		{[]change{func(d *api.Def) { d.Refs = 1 }, func(d *api.Def) { d.Refs = 4 }, func(d *api.Def) { d.Given, d.Refs = many(4), 4 }}, []change{func(d *api.Def) { d.Refs = 0 }, func(d *api.Def) { d.Refs = 5 }, func(d *api.Def) { d.Given, d.Refs = many(5), 5 }, func(d *api.Def) { d.Given = many(4) }}},
		{[]change{func(d *api.Def) { d.Given, d.Refs = nil, 0 }}, []change{func(d *api.Def) { d.Given, d.Refs = nil, -1 }}},
		{[]change{func(d *api.Def) { d.Arrays = slices.Repeat(d.Arrays, 2) }, func(d *api.Def) { d.Arrays = nil }}, []change{func(d *api.Def) { d.Arrays = slices.Repeat(d.Arrays, 3)[:5] }}},
		{[]change{func(d *api.Def) { d.Arrays[0].Len = 1 }, func(d *api.Def) { d.Arrays[0].Len = 64 }}, []change{func(d *api.Def) { d.Arrays[0].Len = 0 }, func(d *api.Def) { d.Arrays[0].Len = 65 }, func(d *api.Def) { d.Arrays[1].Len = -1 }}},
		{[]change{func(d *api.Def) { d.Arrays[0].Of = 1 }, func(d *api.Def) { d.Arrays[1].Of = 0 }}, []change{func(d *api.Def) { d.Arrays[0].Of = 2 }, func(d *api.Def) { d.Arrays[0].Of = -1 }}},
		{[]change{func(d *api.Def) { d.Budget = 1 }, func(d *api.Def) { d.Budget = 20000 }}, []change{func(d *api.Def) { d.Budget = 0 }, func(d *api.Def) { d.Budget = 20001 }}},
	} {
		for k, f := range slices.Concat(c.right, c.wrong) {
			d := holding()
			f(&d)
			if e := shape.Def(d, decl()); (e == api.OK) != (k < len(c.right)) || e != api.OK && e != api.ErrShape {
				t.Errorf("case %d, %d: %d", i, k, e)
			}
		}
	}
	refuses(t, api.Def{})
}

// P6.1, F1.
func TestNames(t *testing.T) {
	for _, s := range []string{"a", "z", "A", "Z", "a_", "b0", "b9", "Ab_9_zZ", strings.Repeat("x", 20)} {
		d := holding()
		d.Name = s
		accepts(t, d)
	}
	for _, s := range []string{"", "_", "_a", "0", "9a", strings.Repeat("x", 21), "a b", "a-b", "a.b", "é", "aé", "a\x00", "a`", "a{", "a@", "a[", "a/", "a:", "`a", "{a", "@a", "[a", " a", "a\n", strings.Repeat("x", 1<<16)} {
		d := holding()
		d.Name = s
		refuses(t, d)
	}
}

// P6.1, F1: what is right depends on how much the declaration has.
func TestDefDependsOnDecl(t *testing.T) {
	queues := func(x *api.Decl, n int) { x.Queues = slices.Repeat([]api.Queue{{Cap: 1}}, n) }
	globals := func(x *api.Decl, n int) { x.Globals = make([]api.Range, n) }
	locks := func(x *api.Decl, n int) { x.Locks = n }
	for _, c := range []struct {
		op, least, most int
		have            func(x *api.Decl, n int)
	}{
		{api.SRead, 0, 8, globals}, {api.SWrite, 0, 8, globals}, {api.SSend, 0, 4, queues}, {api.SRecv, 0, 4, queues},
		{api.SSource, 0, 8, func(x *api.Decl, n int) { x.Classes = make([]api.Range, n) }},
		{api.SSink, 0, 8, func(x *api.Decl, n int) { x.Sinks = make([]int, n) }},
		{api.SLock, 0, 8, locks}, {api.SUnlock, 0, 8, locks},
		{api.SUse, 1, 16, func(x *api.Decl, n int) { x.Parts = n }},
	} {
		for n := c.least; n <= c.most; n++ {
			for m := range 17 {
				s, x := example(c.op), decl()
				s.M = m
				d := holding(s)
				d.Part = 0
				c.have(&x, n)
				if right := shape.Def(d, x) == api.OK; right != (m < n) {
					t.Errorf("operator %d with M %d of %d: %v", c.op, m, n, right)
				}
			}
		}
	}
}

// P6.1, F1: expressions and conditions on both sides of their limits; their sizes count all operators.
func TestExpressions(t *testing.T) {
	returns := func(x api.Expr) api.Def { return holding(api.Stmt{Site: 1, Op: api.SReturn, X: x}) }
	asserts := func(c api.Cond) api.Def { return holding(api.Stmt{Site: 1, Op: api.SAssert, C: c}) }
	size60 := join(api.CAnd, join(api.CNot, always()), compare(api.CLt, wide(28), num(1)))
	for i, d := range []api.Def{
		returns(num(api.MinInt)), returns(num(api.MaxInt)), returns(variable(0)), returns(variable(2)), returns(length(1)),
		returns(chain(10)), returns(wide(30)),
		asserts(not(9, always())), asserts(compare(api.CLe, chain(9), chain(9))), asserts(compare(api.CLe, num(1), chain(9))),
		asserts(not(1, compare(api.CEq, wide(29), num(1)))), asserts(size60), asserts(not(7, join(api.COr, always(), compare(api.CEq, num(1), num(2))))),
	} {
		if e := shape.Def(d, decl()); e != api.OK {
			t.Errorf("right case %d: %d", i, e)
		}
	}
	for i, d := range []api.Def{
		returns(num(api.MinInt - 1)), returns(num(api.MaxInt + 1)), returns(variable(3)), returns(variable(-1)), returns(length(2)), returns(length(-1)),
		returns(chain(11)), returns(wide(31)), returns(api.Expr{}),
		asserts(not(10, always())), asserts(compare(api.CLe, chain(10), num(1))), asserts(compare(api.CLe, num(1), chain(10))),
		asserts(compare(api.CEq, wide(30), num(1))), asserts(not(1, size60)), asserts(not(8, join(api.COr, always(), compare(api.CEq, num(1), num(2))))), asserts(api.Cond{}),
	} {
		if e := shape.Def(d, decl()); e != api.ErrShape {
			t.Errorf("wrong case %d: %d", i, e)
		}
	}
}

// P6.1, F1: wherever an expression or a condition stands, it is a whole of its own, with its own size.
func TestSizesAreApart(t *testing.T) {
	big, more := wide(30), wide(31)
	for i, c := range []struct{ right, wrong api.Stmt }{
		{api.Stmt{Op: api.SStore, X: big, Y: big}, api.Stmt{Op: api.SStore, X: big, Y: more}},
		{api.Stmt{Op: api.SStore, X: big, Y: big}, api.Stmt{Op: api.SStore, X: more, Y: big}},
		{api.Stmt{Op: api.SCall, M: 1, N: -1, Args: slices.Repeat([]api.Expr{big}, 12)}, api.Stmt{Op: api.SCall, M: 1, N: -1, Args: []api.Expr{big, more}}},
		{api.Stmt{Op: api.SIf, C: compare(api.CLt, wide(29), num(1))}, api.Stmt{Op: api.SIf, C: compare(api.CLt, wide(29), wide(2))}},
		{api.Stmt{Op: api.SWhile, V: 1, C: compare(api.CLt, num(1), wide(29))}, api.Stmt{Op: api.SWhile, V: 1, C: compare(api.CLt, wide(2), wide(29))}},
	} {
		c.right.Site, c.wrong.Site = 1, 1
		if shape.Def(holding(c.right), decl()) != api.OK || shape.Def(holding(c.wrong), decl()) != api.ErrShape {
			t.Errorf("case %d", i)
		}
	}
}

// P6.1, F1: operators that there are not, and operands that are missing or left over.
func TestOperands(t *testing.T) {
	x, c := num(1), always()
	for _, n := range []int{-1, 0, 8, 11, 12, 1<<32 + 1, 1<<32 + api.EAdd, 1 << 62, -1 << 63} {
		if n != 8 {
			refuses(t, holding(api.Stmt{Site: 1, Op: api.SReturn, X: api.Expr{Op: n}}))
			refuses(t, holding(api.Stmt{Site: 1, Op: api.SReturn, X: expr(n, x, x)}))
		}
		if n < 1 || n > 7 {
			refuses(t, holding(api.Stmt{Site: 1, Op: api.SAssert, C: api.Cond{Op: n}}))
			refuses(t, holding(api.Stmt{Site: 1, Op: api.SAssert, C: compare(n, x, x)}))
			refuses(t, holding(api.Stmt{Site: 1, Op: api.SAssert, C: join(n, c, c)}))
		}
	}
	for op := api.ENum; op <= api.EMax; op++ {
		for n := range 4 {
			want := n == 2
			if op < api.EAdd {
				want = n == 0
			}
			d := holding(api.Stmt{Site: 1, Op: api.SReturn, X: expr(op, slices.Repeat([]api.Expr{x}, n)...)})
			if right := shape.Def(d, decl()) == api.OK; right != want {
				t.Errorf("operator %d with %d operands: %v", op, n, right)
			}
		}
		refuses(t, holding(api.Stmt{Site: 1, Op: api.SReturn, X: api.Expr{Op: op, N: 1, V: 1}}))
		refuses(t, holding(api.Stmt{Site: 1, Op: api.SReturn, X: api.Expr{Op: op, N: 1, V: 1, A: []api.Expr{x, x}}}))
	}
	for op := api.CTrue; op <= api.COr; op++ {
		for a := range 4 {
			for b := range 4 {
				want := [][2]int{{}, {0, 0}, {2, 0}, {2, 0}, {2, 0}, {0, 1}, {0, 2}, {0, 2}}[op] == [2]int{a, b}
				d := holding(api.Stmt{Site: 1, Op: api.SAssert, C: api.Cond{Op: op, A: slices.Repeat([]api.Expr{x}, a), C: slices.Repeat([]api.Cond{c}, b)}})
				if right := shape.Def(d, decl()) == api.OK; right != want {
					t.Errorf("operator %d with %d and %d operands: %v", op, a, b, right)
				}
			}
		}
	}
}

// P6.1, F1: a wrong operand at each place, and at any depth.
func TestWrongOperands(t *testing.T) {
	wrong, right := variable(3), variable(2)
	for _, x := range []api.Expr{expr(api.EMul, wrong, right), expr(api.EMul, right, wrong), expr(api.EMin, expr(api.ESub, right, expr(api.EMod, wrong, right)), right)} {
		refuses(t, holding(api.Stmt{Site: 1, Op: api.SReturn, X: x}))
		refuses(t, holding(api.Stmt{Site: 1, Op: api.SStore, X: right, Y: x}))
		refuses(t, holding(api.Stmt{Site: 1, Op: api.SCall, N: -1, M: 1, Args: []api.Expr{right, x}}))
		for _, c := range []api.Cond{compare(api.CLt, x, right), compare(api.CLe, right, x), compare(api.CEq, right, x)} {
			for _, c := range []api.Cond{c, not(3, c), join(api.CAnd, c, always()), join(api.CAnd, always(), c), join(api.COr, c, always()), join(api.COr, always(), not(1, c))} {
				refuses(t, holding(api.Stmt{Site: 1, Op: api.SAssert, C: c}))
				refuses(t, holding(api.Stmt{Site: 1, Op: api.SIf, C: c}))
			}
		}
	}
}

// P6.1, F1: statements are counted, and nested, wherever they stand.
func TestStatements(t *testing.T) {
	for n, want := range map[int]api.Errno{0: api.OK, 1: api.OK, 200: api.OK, 201: api.ErrShape, 1000: api.ErrShape} {
		for k := range 3 {
			if e := shape.Def(spread(n, k), decl()); e != want {
				t.Errorf("%d statements, %d: %d", n, k, e)
			}
		}
	}
	for n, want := range map[int]api.Errno{1: api.OK, 10: api.OK, 11: api.ErrShape, 12: api.ErrShape, 150: api.ErrShape} {
		for k := range 4 {
			if e := shape.Def(nested(n, k), decl()); e != want {
				t.Errorf("statements nested %d deep, %d: %d", n, k, e)
			}
		}
	}
}

// P6.1, F1: sites are different from each other, and from that of the definition.
func TestSites(t *testing.T) {
	d := holding(example(api.SIf), example(api.SLock))
	d.Body[1].Site = 4
	accepts(t, d)
	places := []*int{&d.Site, &d.Body[0].Site, &d.Body[0].Body[0].Site, &d.Body[0].Else[0].Site, &d.Body[1].Site}
	for i, p := range places {
		for _, q := range places[:i] {
			old := *p
			*p = *q
			refuses(t, d)
			*p = old
		}
		for _, n := range []int{0, -1, maxId + 1, 1<<32 + 5} {
			old := *p
			*p = n
			refuses(t, d)
			*p = old
		}
	}
	accepts(t, d)
}

// P6.1, F1: right definitions with one change, against the model.
func TestChangedDefs(t *testing.T) {
	m := newMaker(1)
	right, wrong := 0, 0
	for i := range 1500 {
		w := newScope(m)
		d := w.def(m.from(1, maxId), i%5)
		if !rightDef(d, w.x) || shape.Def(d, w.x) != api.OK {
			t.Fatalf("%+v is not right: %d", d, shape.Def(d, w.x))
		}
		for range 15 {
			c := changed(m, d)
			if e := shape.Def(c, w.x); e != api.OK && e != api.ErrShape || (e == api.OK) != rightDef(c, w.x) {
				t.Fatalf("for %+v: %+v: %d", w.x, c, e)
			} else if e == api.OK {
				right++
			} else {
				wrong++
			}
		}
	}
	if right < 2000 || wrong < 2000 {
		t.Error("the changes are not interesting:", right, wrong)
	}
}

// P6.1, F1: right declarations with one change, against the model.
func TestChangedDecls(t *testing.T) {
	m := newMaker(2)
	for range 10000 {
		x := m.decl()
		if e := shape.Decl(x); e != api.OK {
			t.Fatalf("%+v: %d", x, e)
		}
		x = changed(m, x)
		if e := shape.Decl(x); e != api.OK && e != api.ErrShape || (e == api.OK) != rightDecl(x) {
			t.Fatalf("%+v: %d", x, e)
		}
	}
}

// P6.1, F1: right programs with some changes, against the model.
func TestChangedPrograms(t *testing.T) {
	m := newMaker(3)
	count := map[api.Errno]int{}
	for range 400 {
		p := m.program()
		if e := shape.Program(p); e != api.OK {
			t.Fatalf("%+v: %d", p, e)
		}
		for k := range 9 {
			c := tidy(p)
			if k < 3 {
				redirect(m, c)
			}
			if k > 0 {
				c = changed(m, c)
			}
			if k%4 == 3 {
				c = changed(m, c)
			}
			e := shape.Program(c)
			if want := rightProgram(c); e != want {
				t.Fatalf("%+v: %d, not %d", c, e, want)
			}
			count[e]++
		}
	}
	if len(count) != 3 || count[api.OK] < 300 || count[api.ErrShape] < 1000 || count[api.ErrCycle] < 50 {
		t.Error("the changes are not interesting:", count)
	}
}

// redirect makes statements of a definition calls of any definitions, with as many arguments as they need.
func redirect(m maker, p api.Program) {
	if len(p.Defs) == 0 {
		return
	}
	d := &p.Defs[m.r.Intn(len(p.Defs))]
	for i := range d.Body {
		h := pick(m, p.Heads)
		d.Body[i] = api.Stmt{
			Site: d.Body[i].Site, Op: api.SCall, N: -1, M: h.Id,
			Args: slices.Repeat([]api.Expr{num(1)}, len(h.Params)), Ptrs: make([]int, len(h.Given)),
		}
	}
}

// P6.1: all functions that check accept all arguments, however big they are.
func TestBigArguments(t *testing.T) {
	loop := []api.Expr{num(1), num(1)}
	loop[1] = expr(api.EAdd, loop...)
	conds := []api.Cond{always(), always()}
	conds[1] = join(api.CAnd, conds...)
	doubled := num(1)
	for range 80 {
		doubled = expr(api.EAdd, doubled, doubled)
	}
	stmts := []api.Stmt{example(api.SLock), example(api.SIf)}
	stmts[1].Body, stmts[1].Else = stmts, stmts
	deep := example(api.SLock)
	for i := range 1 << 15 {
		deep = api.Stmt{Site: i + 2, Op: api.SIf, C: always(), Body: []api.Stmt{deep}}
	}
	for i, d := range []api.Def{
		holding(api.Stmt{Site: 1, Op: api.SReturn, X: loop[1]}), holding(api.Stmt{Site: 1, Op: api.SReturn, X: doubled}), holding(api.Stmt{Site: 1, Op: api.SLock, X: doubled}),
		holding(api.Stmt{Site: 1, Op: api.SAssert, C: conds[1]}), holding(api.Stmt{Site: 1, Op: api.SAssert, C: compare(api.CLt, doubled, doubled)}),
		holding(stmts...), holding(deep), holding(make([]api.Stmt, 1<<16)...),
		holding(api.Stmt{Site: 1, Op: api.SCall, N: -1, M: 1, Args: make([]api.Expr, 1<<20)}), holding(api.Stmt{Site: 1, Op: api.SCall, N: -1, M: 1, Ptrs: make([]int, 1<<20)}),
		holding(api.Stmt{Site: 1, Op: api.SReturn, X: expr(api.EAdd, make([]api.Expr, 1<<20)...)}),
		{Params: make([]api.Range, 1<<20)}, {Arrays: make([]api.Array, 1<<20)}, {Vars: 1 << 62, Refs: -1 << 63},
	} {
		if e := shape.Def(d, decl()); e != api.ErrShape {
			t.Errorf("case %d: %d", i, e)
		}
		if e := shape.Program(api.Program{D: decl(), Heads: []api.Head{shape.Head(d)}, Defs: []api.Def{d}}); e != api.ErrShape {
			t.Errorf("case %d: %d", i, e)
		}
	}
	for i, p := range []api.Program{
		{}, {D: decl(), Heads: make([]api.Head, 1<<16)}, {D: decl(), Defs: make([]api.Def, 1<<16)}, {D: decl(), Threads: make([]int, 1<<20)}, {D: api.Decl{Globals: make([]api.Range, 1<<20)}},
	} {
		if e := shape.Program(p); e != api.ErrShape {
			t.Errorf("program %d: %d", i, e)
		}
	}
}

// P6.1, F4: nothing changes the arguments.
func TestArgumentsStay(t *testing.T) {
	m := newMaker(4)
	for range 300 {
		p := m.program()
		old := tidy(p)
		shape.Program(p)
		shape.Order(p)
		shape.Decl(p.D)
		for _, h := range p.Heads {
			shape.Find(p, h.Id)
			shape.HeadOf(p, h.Id)
		}
		for _, d := range p.Defs {
			shape.Def(d, p.D)
			shape.Calls(d)
			shape.Head(d)
			for i, l := 0, shape.Sites(d); i < len(l); i++ {
				shape.At(d, l[i])
				l[i] = -1
			}
		}
		if !reflect.DeepEqual(old, tidy(p)) {
			t.Fatalf("%+v has become %+v", old, p)
		}
	}
}
