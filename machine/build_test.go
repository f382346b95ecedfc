package machine_test

import (
	"math/rand"
	"reflect"
	"testing"

	"parole/api"
	"parole/machine"
	"parole/shape"
)

// The definition of program, and its end.
const (
	first = 7
	end   = 99
)

func num(v int) api.Expr { return api.Expr{Op: api.ENum, V: v} }

func variable(n int) api.Expr { return api.Expr{Op: api.EVar, N: n} }

func length(n int) api.Expr { return api.Expr{Op: api.ELen, N: n} }

func expr(op int, a, b api.Expr) api.Expr { return api.Expr{Op: op, A: []api.Expr{a, b}} }

func add(a, b api.Expr) api.Expr { return expr(api.EAdd, a, b) }

func compare(op int, a, b api.Expr) api.Cond { return api.Cond{Op: op, A: []api.Expr{a, b}} }

func less(a, b api.Expr) api.Cond { return compare(api.CLt, a, b) }

func join(op int, operands ...api.Cond) api.Cond { return api.Cond{Op: op, C: operands} }

func always() api.Cond { return api.Cond{Op: api.CTrue} }

func never() api.Cond { return join(api.CNot, always()) }

func none() api.Expr { return api.Expr{} }

// st returns a statement without a condition and without statements in it.
func st(site, op, n, m int, x api.Expr) api.Stmt {
	return api.Stmt{Site: site, Op: op, N: n, M: m, X: x}
}

func set(site, n int, x api.Expr) api.Stmt { return st(site, api.SSet, n, 0, x) }

func store(site, m int, x, y api.Expr) api.Stmt {
	return api.Stmt{Site: site, Op: api.SStore, M: m, X: x, Y: y}
}

func back(site int, x api.Expr) api.Stmt { return st(site, api.SReturn, 0, 0, x) }

func throw(site, v int) api.Stmt { return api.Stmt{Site: site, Op: api.SThrow, V: v} }

func assert(site int, c api.Cond) api.Stmt { return api.Stmt{Site: site, Op: api.SAssert, C: c} }

func choose(site int, c api.Cond, body, other []api.Stmt) api.Stmt {
	return api.Stmt{Site: site, Op: api.SIf, C: c, Body: body, Else: other}
}

func loop(site, times int, c api.Cond, body ...api.Stmt) api.Stmt {
	return api.Stmt{Site: site, Op: api.SWhile, V: times, C: c, Body: body}
}

func try(site, n int, body, other []api.Stmt) api.Stmt {
	return api.Stmt{Site: site, Op: api.STry, N: n, Body: body, Else: other}
}

func call(site, n, id int, args []api.Expr, refs ...int) api.Stmt {
	return api.Stmt{Site: site, Op: api.SCall, N: n, M: id, Args: args, Ptrs: refs}
}

// by returns a statement that is about M alone, or about the reference N.
func by(site, op, n int) api.Stmt {
	if op == api.SNew || op == api.SFree {
		return st(site, op, n, 0, none())
	}
	return st(site, op, 0, n, none())
}

func list(l ...api.Stmt) []api.Stmt { return l }

func exprs(l ...api.Expr) []api.Expr { return l }

func w(v, mask int) api.Word { return api.Word{V: v, Mask: mask} }

func words(l ...api.Word) []api.Word { return l }

func answer(v, mask int) api.Answer { return api.Answer{W: w(v, mask)} }

// answers returns n answers that do not matter.
func answers(n int) []api.Answer { return make([]api.Answer, n) }

func decl() api.Decl {
	return api.Decl{
		Globals: []api.Range{{Lo: 0, Hi: 9, Mask: 255}, {Lo: -3, Hi: 4, Mask: 5}},
		Classes: []api.Range{{Lo: 0, Hi: 9, Mask: 1}, {Lo: 2, Hi: 2, Mask: 2}},
		Queues:  []api.Queue{{Cap: 1}, {Cap: 2, R: api.Range{Lo: 1, Hi: 6, Mask: 6}}},
		Sinks:   []int{0, 255, 5},
		Locks:   8, Parts: 16, Firms: 1,
	}
}

// program returns a program with the definition 7, in part 1: a parameter, three further variables, three references, an array of 4 elements, and one of as many as the parameter says, but at most 6.
func program(body ...api.Stmt) api.Program {
	d := api.Def{
		Id: first, Site: end, Name: "a", Part: 1, Params: []api.Range{{Lo: -9, Hi: 99, Mask: 7}}, Vars: 4, Refs: 3,
		Arrays: []api.Array{{Len: 4}, {Len: 6, Of: 1}}, Budget: api.MaxFuel, Body: body,
	}
	return with(api.Program{D: decl()}, d)
}

// with returns a program with one more definition, whose Id is greater than the others.
func with(p api.Program, d api.Def) api.Program {
	p.Heads = append(p.Heads[:len(p.Heads):len(p.Heads)], shape.Head(d))
	p.Defs = append(p.Defs[:len(p.Defs):len(p.Defs)], d)
	return p
}

// closed returns a program without a definition, but with its head.
func closed(p api.Program, id int) api.Program {
	var l []api.Def
	for _, d := range p.Defs {
		if d.Id != id {
			l = append(l, d)
		}
	}
	p.Defs = l
	return p
}

func event(kind, site, n int, x api.Word) api.Event {
	return api.Event{Kind: kind, Def: first, Site: site, N: n, W: x}
}

func called(site, id int, args ...api.Word) api.Event {
	return api.Event{Kind: api.VCall, Def: first, Site: site, N: id, Args: args}
}

func returned(site, id int, x api.Word, number int) api.Event {
	return api.Event{Kind: api.VReturn, Def: id, Site: site, N: id, W: x, Throw: number}
}

// after returns a run with these events, in which the calls are those of open definitions.
func after(how, cost int, ev []api.Event) api.Run {
	r := api.Run{Ev: ev, How: how, Cost: cost}
	for _, e := range ev {
		if e.Kind != api.VCall && e.Kind != api.VReturn {
			r.Used++
		}
	}
	return r
}

func ends(x api.Word, cost int, ev ...api.Event) api.Run {
	r := after(api.HEnd, cost, ev)
	r.W = x
	return r
}

func throws(number, cost int, ev ...api.Event) api.Run {
	r := after(api.HThrow, cost, ev)
	r.Throw = number
	return r
}

func fails(site, kind, cost int, ev ...api.Event) api.Run {
	r := after(api.HFail, cost, ev)
	r.Fail = api.Failure{Site: site, Kind: kind}
	return r
}

func waits(next api.Event, cost int, ev ...api.Event) api.Run {
	r := after(api.HWait, cost, ev)
	r.Next = next
	return r
}

// within returns a run that ends within these calls.
func within(r api.Run, sites ...int) api.Run {
	r.Calls = sites
	return r
}

func needRight(t *testing.T, p api.Program) {
	t.Helper()
	if e := shape.Program(p); e != api.OK {
		t.Fatalf("the program is not right: %d", e)
	}
}

// runs tests a run of the first definition.
func runs(t *testing.T, p api.Program, arg api.Word, l []api.Answer, want api.Run) {
	t.Helper()
	needRight(t, p)
	if r := machine.Run(p, first, words(arg), nil, l); !same(r, want) {
		t.Errorf("with %v and %v, the run is\n%+v, not\n%+v", arg, l, r, want)
	}
}

// A maker makes the same programs and answers whenever the tests run.
type maker struct{ r *rand.Rand }

func newMaker(seed int64) maker { return maker{rand.New(rand.NewSource(seed))} }

func (m maker) from(lo, hi int) int { return lo + m.r.Intn(hi-lo+1) }

// oneIn is true in one of n cases.
func (m maker) oneIn(n int) bool { return m.r.Intn(n) == 0 }

func some[T any](n int, make func() T) []T {
	var l []T
	for range n {
		l = append(l, make())
	}
	return l
}

func pick[T any](m maker, l ...T) T { return l[m.r.Intn(len(l))] }

// tidy returns a copy of x with memory of its own, in which all lists without elements are nil.
func tidy[T any](x T) T {
	var out T
	copyInto(reflect.ValueOf(&out).Elem(), reflect.ValueOf(x))
	return out
}

func copyInto(to, from reflect.Value) {
	switch from.Kind() {
	case reflect.Struct:
		for i := range from.NumField() {
			copyInto(to.Field(i), from.Field(i))
		}
	case reflect.Slice:
		if n := from.Len(); n > 0 {
			to.Set(reflect.MakeSlice(from.Type(), n, n))
			for i := range n {
				copyInto(to.Index(i), from.Index(i))
			}
		}
	default:
		to.Set(from)
	}
}

func same[T any](a, b T) bool { return reflect.DeepEqual(tidy(a), tidy(b)) }
