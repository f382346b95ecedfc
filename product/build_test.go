package product_test

import (
	"reflect"
	"testing"

	"parole/api"
	"parole/product"
	"parole/shape"
)

func num(v int) api.Expr { return api.Expr{Op: api.ENum, V: v} }

func variable(n int) api.Expr { return api.Expr{Op: api.EVar, N: n} }

func expr(op int, a, b api.Expr) api.Expr { return api.Expr{Op: op, A: []api.Expr{a, b}} }

func add(a, b api.Expr) api.Expr { return expr(api.EAdd, a, b) }

func compare(op int, a, b api.Expr) api.Cond { return api.Cond{Op: op, A: []api.Expr{a, b}} }

func always() api.Cond { return api.Cond{Op: api.CTrue} }

func never() api.Cond { return api.Cond{Op: api.CNot, C: []api.Cond{always()}} }

// input returns a statement that gives variable N what it gets from M.
func input(op, n, m int) api.Stmt { return api.Stmt{Op: op, N: n, M: m} }

// output returns a statement that gives X to M.
func output(op, m int, x api.Expr) api.Stmt { return api.Stmt{Op: op, M: m, X: x} }

func lock(m int) api.Stmt { return api.Stmt{Op: api.SLock, M: m} }

func unlock(m int) api.Stmt { return api.Stmt{Op: api.SUnlock, M: m} }

func use(m int) api.Stmt { return api.Stmt{Op: api.SUse, M: m} }

func set(n int, x api.Expr) api.Stmt { return api.Stmt{Op: api.SSet, N: n, X: x} }

func back(x api.Expr) api.Stmt { return api.Stmt{Op: api.SReturn, X: x} }

func throw(v int) api.Stmt { return api.Stmt{Op: api.SThrow, V: v} }

func assert(c api.Cond) api.Stmt { return api.Stmt{Op: api.SAssert, C: c} }

func choose(c api.Cond, body, other []api.Stmt) api.Stmt {
	return api.Stmt{Op: api.SIf, C: c, Body: body, Else: other}
}

func loop(times int, c api.Cond, body ...api.Stmt) api.Stmt {
	return api.Stmt{Op: api.SWhile, V: times, C: c, Body: body}
}

func try(n int, body, other []api.Stmt) api.Stmt {
	return api.Stmt{Op: api.STry, N: n, Body: body, Else: other}
}

func call(n, id int, args ...api.Expr) api.Stmt {
	return api.Stmt{Op: api.SCall, N: n, M: id, Args: args}
}

func list(l ...api.Stmt) []api.Stmt { return l }

func w(v, mask int) api.Word { return api.Word{V: v, Mask: mask} }

func words(l ...api.Word) []api.Word { return l }

func decl() api.Decl {
	return api.Decl{
		Globals: []api.Range{{Lo: -5, Hi: 5, Mask: 255}, {Lo: 2, Hi: 9, Mask: 7}},
		Classes: []api.Range{{Lo: 0, Hi: 9, Mask: 1}, {Lo: -2, Hi: 2, Mask: 6}},
		Queues:  []api.Queue{{Cap: 1, R: api.Range{Lo: 0, Hi: 9, Mask: 255}}, {Cap: 2, R: api.Range{Lo: -9, Hi: 9, Mask: 255}}},
		Sinks:   []int{255, 0},
		Locks:   4, Parts: 3, Firms: 1,
	}
}

// threads returns a program of which the thread t has these statements: its definition is t + 1, its sites begin at 100 (t + 1), and its end has the last site below the next ones.
func threads(bodies ...[]api.Stmt) api.Program {
	p := api.Program{D: decl()}
	for _, l := range bodies {
		p = with(p, l)
		p.Threads = append(p.Threads, len(p.Defs))
	}
	return p
}

// with returns a program with one more definition, with the sites and the Id that threads gives it; it is no thread.
func with(p api.Program, body []api.Stmt, params ...api.Range) api.Program {
	id := len(p.Defs) + 1
	site := 100 * id
	d := api.Def{Id: id, Site: site + 99, Name: "a", Params: params, Vars: len(params) + 2, Budget: api.MaxFuel}
	d.Body = numbered(body, &site)
	p.Defs = append(p.Defs[:len(p.Defs):len(p.Defs)], d)
	p.Heads = append(p.Heads[:len(p.Heads):len(p.Heads)], shape.Head(d))
	return p
}

// numbered returns statements with the next sites, in the order in which they stand.
func numbered(l []api.Stmt, site *int) []api.Stmt {
	var out []api.Stmt
	for _, s := range l {
		s.Site = *site
		*site++
		s.Body = numbered(s.Body, site)
		s.Else = numbered(s.Else, site)
		out = append(out, s)
	}
	return out
}

// closed returns a program without a definition, but with its head.
func closed(p api.Program, id int) api.Program {
	var l []api.Def
	for _, d := range p.Defs {
		if d.Id != id {
			l = append(l, d)
		}
	}
	p.Defs = l
	return p
}

// noInputs are those of a program with the classes of decl.
func noInputs() [][]int { return [][]int{nil, nil} }

// A setting is a program with its inputs, and a state of it.
type setting struct {
	t  *testing.T
	p  api.Program
	in [][]int
	s  api.State
}

func needRight(t *testing.T, p api.Program) {
	t.Helper()
	if e := shape.Program(p); e != api.OK {
		t.Fatalf("the program is not right: %d\n%+v", e, p)
	}
}

func start(t *testing.T, p api.Program, in [][]int) setting {
	t.Helper()
	needRight(t, p)
	s, e := product.New(p, in)
	if e != api.OK {
		t.Fatalf("New: error %d", e)
	}
	return setting{t, p, in, s}
}

// begin starts a program that needs no inputs.
func begin(t *testing.T, bodies ...[]api.Stmt) setting {
	t.Helper()
	return start(t, threads(bodies...), noInputs())
}

// step lets threads do steps, one after the other.
func (x setting) step(l ...int) setting {
	x.t.Helper()
	for i, thread := range l {
		s, e := product.Step(x.p, x.in, x.s, thread)
		if e != api.OK {
			x.t.Fatalf("step %d, of thread %d: error %d in\n%+v", i, thread, e, x.s)
		}
		x.s = s
	}
	return x
}

// ready tests which threads are ready, and that the others have to wait, or the state has failed.
func (x setting) ready(want ...int) setting {
	x.t.Helper()
	if l := product.Ready(x.p, x.in, x.s); !same(l, want) {
		x.t.Errorf("the threads %v are ready, not %v, in\n%+v", l, want, x.s)
	}
	e := api.ErrWait
	if x.s.Fail.Kind != 0 {
		e = api.ErrEnd
	}
	for thread := range x.p.Threads {
		if !has(want, thread) {
			x.refuses(thread, e)
		}
	}
	return x
}

func (x setting) refuses(thread int, want api.Errno) {
	x.t.Helper()
	if s, e := product.Step(x.p, x.in, x.s, thread); e != want || !same(s, x.s) {
		x.t.Errorf("a step of thread %d: error %d, not %d, and\n%+v", thread, e, want, s)
	}
}

// fails tests how the state has failed; without a failure, all is 0.
func (x setting) fails(site, kind, by int) setting {
	x.t.Helper()
	if f := (api.Failure{Site: site, Kind: kind}); x.s.Fail != f || x.s.By != by {
		x.t.Errorf("the failure is %+v by %d, not %+v by %d", x.s.Fail, x.s.By, f, by)
	}
	if kind != 0 {
		x.ready()
		x.refuses(-1, api.ErrEnd)
	}
	return x
}

func (x setting) works() setting {
	x.t.Helper()
	return x.fails(0, 0, 0)
}

func (x setting) ended(want ...bool) setting {
	x.t.Helper()
	if l := product.Ended(x.p, x.s); !same(l, want) {
		x.t.Errorf("Ended: %v, not %v, in\n%+v", l, want, x.s)
	}
	return x
}

// is tests the whole state.
func (x setting) is(want api.State) setting {
	x.t.Helper()
	if !same(x.s, want) {
		x.t.Errorf("the state is\n%+v, not\n%+v", x.s, want)
	}
	return x
}

// event returns an operation at a site of threads, of which the definition follows.
func event(kind, site, n int, x api.Word) api.Event {
	return api.Event{Kind: kind, Def: site / 100, Site: site, N: n, W: x}
}

// done returns a state with one more answer and event of a thread.
func done(s api.State, thread int, answer api.Word, e api.Event) api.State {
	s = tidy(s)
	s.Answers[thread] = append(s.Answers[thread], api.Answer{W: answer})
	s.Log = append(s.Log, api.Logged{Thread: thread, E: e})
	return s
}

func has(l []int, x int) bool {
	for _, y := range l {
		if x == y {
			return true
		}
	}
	return false
}

// tidy returns a copy of x with memory of its own, in which all lists without elements are nil.
func tidy[T any](x T) T {
	var out T
	copyInto(reflect.ValueOf(&out).Elem(), reflect.ValueOf(x))
	return out
}

func copyInto(to, from reflect.Value) {
	switch from.Kind() {
	case reflect.Struct:
		for i := range from.NumField() {
			copyInto(to.Field(i), from.Field(i))
		}
	case reflect.Slice:
		if n := from.Len(); n > 0 {
			to.Set(reflect.MakeSlice(from.Type(), n, n))
			for i := range n {
				copyInto(to.Index(i), from.Index(i))
			}
		}
	default:
		to.Set(from)
	}
}

func same[T any](a, b T) bool { return reflect.DeepEqual(tidy(a), tidy(b)) }
