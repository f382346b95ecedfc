package shape_test

import (
	"math/rand"
	"reflect"
	"slices"
	"testing"

	"parole/api"
	"parole/shape"
)

// maxId is the greatest Id, and the greatest site.
const maxId = 1 << 30

func num(v int) api.Expr { return api.Expr{Op: api.ENum, V: v} }

func variable(n int) api.Expr { return api.Expr{Op: api.EVar, N: n} }

func length(n int) api.Expr { return api.Expr{Op: api.ELen, N: n} }

func expr(op int, operands ...api.Expr) api.Expr { return api.Expr{Op: op, A: operands} }

func compare(op int, operands ...api.Expr) api.Cond { return api.Cond{Op: op, A: operands} }

func join(op int, operands ...api.Cond) api.Cond { return api.Cond{Op: op, C: operands} }

func always() api.Cond { return api.Cond{Op: api.CTrue} }

// chain returns an expression with this depth.
func chain(depth int) api.Expr {
	x := num(1)
	for range depth - 1 {
		x = expr(api.EAdd, x, num(1))
	}
	return x
}

// wide returns an expression with so many leaves, whose size is one less than twice as many.
func wide(leaves int) api.Expr {
	if leaves == 1 {
		return variable(0)
	}
	return expr(api.EMax, wide(leaves/2), wide(leaves-leaves/2))
}

func not(n int, c api.Cond) api.Cond {
	for range n {
		c = join(api.CNot, c)
	}
	return c
}

// spread returns a definition with n statements: in Body of the definition, or of a statement in turns with its Else.
func spread(n, where int) api.Def {
	d := holding()
	for i := range n {
		s := api.Stmt{Site: i + 1, Op: api.SLock}
		if i == 0 && where > 0 {
			s = api.Stmt{Site: 1, Op: api.SIf, C: always()}
		}
		switch {
		case i == 0 || where == 0:
			d.Body = append(d.Body, s)
		case where == 1 || i%2 == 0:
			d.Body[0].Body = append(d.Body[0].Body, s)
		default:
			d.Body[0].Else = append(d.Body[0].Else, s)
		}
	}
	return d
}

// nested returns a definition whose statements are n deep.
func nested(n, where int) api.Def {
	s := api.Stmt{Site: 1, Op: api.SLock}
	for i := range n - 1 {
		inner := []api.Stmt{s}
		s = []api.Stmt{
			{Op: api.SIf, C: always(), Body: inner}, {Op: api.SIf, C: always(), Else: inner}, {Op: api.SWhile, V: 1, C: always(), Body: inner}, {Op: api.STry, N: 1, Else: inner},
		}[where]
		s.Site = i + 2
	}
	return holding(s)
}

// decl has different numbers of everything, and less than there may be.
func decl() api.Decl {
	return api.Decl{
		Globals: []api.Range{{Lo: 0, Hi: 9}, {Lo: -1, Hi: -1, Mask: 3}},
		Classes: []api.Range{{Lo: 0, Hi: 9, Mask: 1}, {Hi: 1}, {Hi: 2}},
		Queues:  []api.Queue{{Cap: 16, R: api.Range{Lo: -1, Hi: 1}}},
		Sinks:   []int{0, 255, 7, 8},
		Locks:   5, Parts: 6, Firms: 7,
	}
}

// holding returns a definition with a parameter, two further variables, three references and two arrays.
func holding(l ...api.Stmt) api.Def {
	return api.Def{
		Id: 7, Site: 9000, Name: "f_1", Firm: 1, Part: 2,
		Params: []api.Range{{Lo: 0, Hi: 3}}, Given: []api.Range{{Lo: -2, Hi: 2, Mask: 5}}, Vars: 3, Refs: 3,
		Arrays: []api.Array{{Len: 4}, {Len: 64, Of: 1}}, Budget: 10, Body: l,
	}
}

// examples are right statements of holding, by their operators; their numbers are different from 0 where they can be.
func examples() []api.Stmt {
	x, y, c := expr(api.ESub, variable(2), num(5)), length(1), compare(api.CLt, variable(0), num(1))
	inner := func(site int) []api.Stmt { return []api.Stmt{{Site: site, Op: api.SLock, M: 1}} }
	return []api.Stmt{
		api.SSet:    {N: 1, X: x},
		api.SLoad:   {N: 2, M: 1, X: x},
		api.SStore:  {M: 1, X: x, Y: y},
		api.SRead:   {N: 1, M: 1},
		api.SWrite:  {M: 1, X: x},
		api.SNew:    {N: 1},
		api.SFree:   {N: 2},
		api.SMove:   {N: 1, M: 2},
		api.SPut:    {N: 2, X: x},
		api.SGet:    {N: 2, M: 1},
		api.SIf:     {C: c, Body: inner(2), Else: inner(3)},
		api.SWhile:  {C: c, V: 16, Body: inner(2)},
		api.SCall:   {N: 2, M: 70, Args: []api.Expr{x, y}, Ptrs: []int{1, 2}},
		api.SThrow:  {V: 31},
		api.STry:    {N: 1, Body: inner(2), Else: inner(3)},
		api.SLock:   {M: 4},
		api.SUnlock: {M: 1},
		api.SSend:   {M: 0, X: x},
		api.SRecv:   {N: 1},
		api.SSource: {N: 1, M: 2},
		api.SSink:   {M: 3, X: x},
		api.SUse:    {M: 5},
		api.SAssert: {C: join(api.CAnd, always(), join(api.CNot, c))},
		api.SReturn: {X: x},
	}
}

// example returns the right statement with this operator, at site 1.
func example(op int) api.Stmt {
	s := examples()[op]
	s.Site, s.Op = 1, op
	return s
}

func accepts(t *testing.T, d api.Def) {
	t.Helper()
	if e := shape.Def(d, decl()); e != api.OK {
		t.Errorf("%+v is refused: %d", d, e)
	}
}

func refuses(t *testing.T, d api.Def) {
	t.Helper()
	if e := shape.Def(d, decl()); e != api.ErrShape {
		t.Errorf("%+v is not refused: %d", d, e)
	}
}

// A maker makes the same definitions whenever the tests run.
type maker struct{ r *rand.Rand }

func newMaker(seed int64) maker { return maker{rand.New(rand.NewSource(seed))} }

func (m maker) from(lo, hi int) int { return lo + m.r.Intn(hi-lo+1) }

func some[T any](n int, make func() T) []T {
	var l []T
	for range n {
		l = append(l, make())
	}
	return l
}

func pick[T any](m maker, l []T) T { return l[m.r.Intn(len(l))] }

func (m maker) value() int {
	return pick(m, []int{api.MinInt, -3, 0, 1, 2, 5, 100, api.MaxInt, m.from(-20, 20)})
}

func (m maker) rangeOf() api.Range {
	a, b := m.value(), m.value()
	return api.Range{Lo: min(a, b), Hi: max(a, b), Mask: m.from(0, 255)}
}

func (m maker) decl() api.Decl {
	return api.Decl{
		Globals: some(m.from(1, 8), m.rangeOf), Classes: some(m.from(1, 8), m.rangeOf),
		Queues: some(m.from(1, 4), func() api.Queue { return api.Queue{Cap: m.from(1, 16), R: m.rangeOf()} }),
		Sinks:  some(m.from(1, 8), func() int { return m.from(0, 255) }),
		Locks:  m.from(1, 8), Parts: m.from(1, 16), Firms: m.from(1, 8),
	}
}

// A scope has what a definition needs from around it.
type scope struct {
	maker
	x       api.Decl
	site    *int // the last one
	callees []api.Head
}

func newScope(m maker) scope { return scope{maker: m, x: m.decl(), site: new(int)} }

// newSite returns increasing sites in the order in which statements are made, but from 1 to 2^30 at the ends.
func (m scope) newSite() int {
	*m.site += m.from(1, 3)
	return *m.site
}

func (m scope) def(id, n int) api.Def {
	d := api.Def{
		Id: id, Name: pick(m.maker, []string{"f", "Zz_9", "a2345678901234567890", "x_"}),
		Firm: m.from(0, m.x.Firms-1), Part: m.from(0, m.x.Parts-1),
		Params: some(m.from(0, 3), m.rangeOf), Given: some(m.from(0, 3), m.rangeOf),
		Budget: m.from(1, api.MaxFuel),
	}
	d.Vars, d.Refs = m.from(len(d.Params)+1, 12), m.from(len(d.Given)+1, 4)
	d.Arrays = some(m.from(1, 4), func() api.Array {
		return api.Array{Len: m.from(1, 64), Of: m.from(0, len(d.Params))}
	})
	d.Body = some(n, func() api.Stmt { return m.stmt(d, 4, 0) })
	d.Site = m.newSite()
	return d
}

func (m scope) expr(d api.Def, depth int) api.Expr {
	op := m.from(api.ENum, api.EMax)
	if depth <= 1 {
		op = m.from(api.ENum, api.ELen)
	}
	switch op {
	case api.ENum:
		return num(m.value())
	case api.EVar:
		return variable(m.from(0, d.Vars-1))
	case api.ELen:
		return length(m.from(0, len(d.Arrays)-1))
	}
	return expr(op, m.expr(d, depth-1), m.expr(d, depth-1))
}

func (m scope) cond(d api.Def, depth int) api.Cond {
	op := m.from(api.CTrue, api.COr)
	if depth <= 1 {
		op = m.from(api.CTrue, api.CEq)
	}
	switch op {
	case api.CTrue:
		return always()
	case api.CNot:
		return join(op, m.cond(d, depth-1))
	case api.CAnd, api.COr:
		return join(op, m.cond(d, depth-1), m.cond(d, depth-1))
	}
	return compare(op, m.expr(d, 2), m.expr(d, 2))
}

// stmt returns a right statement with the given operator, or any.
func (m scope) stmt(d api.Def, depth, op int) api.Stmt {
	for op == 0 || depth <= 1 && (op == api.SIf || op == api.SWhile || op == api.STry) {
		op = m.from(api.SSet, api.SReturn)
	}
	s := api.Stmt{Site: m.newSite(), Op: op}
	target := m.from(len(d.Params), d.Vars-1)
	block := func() []api.Stmt {
		return some(m.from(0, 2), func() api.Stmt { return m.stmt(d, depth-1, 0) })
	}
	if op == api.SCall {
		m.call(d, &s, target)
		return s
	}
	for _, f := range fieldsOf(op) {
		switch f.name {
		case "N":
			s.N = pick(m.maker, modelOf(d, m.x).numbers(f.what))
		case "M":
			s.M = pick(m.maker, modelOf(d, m.x).numbers(f.what))
		case "V":
			s.V = pick(m.maker, modelOf(d, m.x).numbers(f.what))
		case "X":
			s.X = m.expr(d, 3)
		case "Y":
			s.Y = m.expr(d, 3)
		case "C":
			s.C = m.cond(d, 3)
		case "Body":
			s.Body = block()
		case "Else":
			s.Else = block()
		}
	}
	return s
}

// call makes a call of any definition, or of one of the callees, if there are any.
func (m scope) call(d api.Def, s *api.Stmt, target int) {
	s.N, s.M = pick(m.maker, []int{-1, target}), pick(m.maker, []int{1, maxId, m.from(1, maxId)})
	args, ptrs := m.from(0, 12), m.from(0, 4)
	if len(m.callees) > 0 {
		h := pick(m.maker, m.callees)
		s.M, args, ptrs = h.Id, len(h.Params), len(h.Given)
	}
	s.Args = some(args, func() api.Expr { return m.expr(d, 2) })
	s.Ptrs = some(ptrs, func() int { return m.from(0, d.Refs-1) })
}

// program returns a right program: definitions call those that were made ahead of them, whatever their Ids are, and some are closed.
func (m maker) program() api.Program {
	w := newScope(m)
	w.callees = []api.Head{{Id: maxId, Given: []api.Range{w.rangeOf()}}, {Id: maxId - 1, Params: []api.Range{w.rangeOf()}}}
	p := api.Program{D: w.x}
	for _, id := range m.r.Perm(m.from(1, 8)) {
		d := w.def(3*id+1, m.from(0, 4))
		if m.r.Intn(2) == 0 {
			d.Params, d.Given = nil, nil
			for i := range d.Arrays {
				d.Arrays[i].Of = 0
			}
		}
		w.callees = append(w.callees, shape.Head(d))
		if m.r.Intn(5) > 0 {
			p.Defs = append(p.Defs, d)
		}
	}
	p.Heads = slices.Clone(w.callees)
	slices.SortFunc(p.Heads, func(a, b api.Head) int { return a.Id - b.Id })
	slices.SortFunc(p.Defs, func(a, b api.Def) int { return a.Id - b.Id })
	for _, d := range p.Defs {
		if len(d.Params)+len(d.Given) == 0 && len(p.Threads) < api.MaxThreads {
			p.Threads = append(p.Threads, some(m.from(0, 4-len(p.Threads)), func() int { return d.Id })...)
		}
	}
	return p
}

// tidy returns a copy of x with memory of its own, in which all lists without elements are nil.
func tidy[T any](x T) T {
	var out T
	copyInto(reflect.ValueOf(&out).Elem(), reflect.ValueOf(x))
	return out
}

func copyInto(to, from reflect.Value) {
	switch from.Kind() {
	case reflect.Struct:
		for i := range from.NumField() {
			copyInto(to.Field(i), from.Field(i))
		}
	case reflect.Slice:
		if n := from.Len(); n > 0 {
			to.Set(reflect.MakeSlice(from.Type(), n, n))
			for i := range n {
				copyInto(to.Index(i), from.Index(i))
			}
		}
	default:
		to.Set(from)
	}
}

func same[T any](a, b T) bool { return reflect.DeepEqual(tidy(a), tidy(b)) }
