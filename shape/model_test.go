package shape_test

import (
	"reflect"
	"regexp"
	"slices"
	"strings"

	"parole/api"
)

// table is the one of the chapter: the fields by operators, with what the numbers are.
func table() []string {
	return []string{
		api.SSet: "N=target X", api.SLoad: "N=target M=array X", api.SStore: "M=array X Y",
		api.SRead: "N=target M=global", api.SSource: "N=target M=class", api.SRecv: "N=target M=queue",
		api.SWrite: "M=global X", api.SSend: "M=queue X", api.SSink: "M=sink X",
		api.SNew: "N=reference", api.SFree: "N=reference", api.SMove: "N=reference M=reference",
		api.SPut: "N=reference X", api.SGet: "N=target M=reference",
		api.SIf: "C Body Else", api.SWhile: "C V=bound Body",
		api.SCall: "N=targetOrNone M=id Args Ptrs", api.SThrow: "V=exception", api.STry: "N=target Body Else",
		api.SLock: "M=lock", api.SUnlock: "M=lock", api.SUse: "M=part", api.SAssert: "C", api.SReturn: "X",
	}
}

type field struct{ name, what string }

func fieldsOf(op int) []field {
	var l []field
	for _, s := range strings.Fields(table()[op]) {
		name, what, _ := strings.Cut(s, "=")
		l = append(l, field{name, what})
	}
	return l
}

// A model says what is right by collecting all that is there, whatever its size.
type model struct {
	d api.Def
	x api.Decl
}

func modelOf(d api.Def, x api.Decl) model { return model{d, x} }

func between(lo, hi int) []int {
	var l []int
	for v := lo; v <= hi; v++ {
		l = append(l, v)
	}
	return l
}

// numbers lists what a number may be, but for Ids.
func (m model) numbers(what string) []int {
	switch what {
	case "target":
		return between(len(m.d.Params), m.d.Vars-1)
	case "targetOrNone":
		return append(between(len(m.d.Params), m.d.Vars-1), -1)
	case "array":
		return between(0, len(m.d.Arrays)-1)
	case "reference":
		return between(0, m.d.Refs-1)
	case "global":
		return between(0, len(m.x.Globals)-1)
	case "class":
		return between(0, len(m.x.Classes)-1)
	case "queue":
		return between(0, len(m.x.Queues)-1)
	case "sink":
		return between(0, len(m.x.Sinks)-1)
	case "lock":
		return between(0, m.x.Locks-1)
	case "part":
		return between(0, m.x.Parts-1)
	case "bound":
		return between(1, 16)
	case "exception":
		return between(1, 31)
	}
	return nil
}

func isId(n int) bool { return 1 <= n && n <= 1<<30 }

func (m model) stmt(s api.Stmt, depth int) bool {
	if !isId(s.Site) || s.Op < 1 || s.Op > 24 || depth > 10 {
		return false
	}
	rest, right := s, true
	rest.Site, rest.Op = 0, 0
	for _, f := range fieldsOf(s.Op) {
		place := reflect.ValueOf(&rest).Elem().FieldByName(f.name)
		switch x := place.Interface().(type) {
		case int:
			right = right && (f.what == "id" && isId(x) || slices.Contains(m.numbers(f.what), x))
		case api.Expr:
			right = right && m.expr(x) && sizeOf(x) <= 60 && depthOf(x) <= 10
		case api.Cond:
			right = right && m.cond(x) && sizeOfC(x) <= 60 && depthOfC(x) <= 10
		case []api.Expr:
			right = right && len(x) <= 12
			for _, e := range x {
				right = right && m.expr(e) && sizeOf(e) <= 60 && depthOf(e) <= 10
			}
		case []int:
			right = right && len(x) <= 4
			for _, n := range x {
				right = right && slices.Contains(m.numbers("reference"), n)
			}
		case []api.Stmt:
			for _, inner := range x {
				right = right && m.stmt(inner, depth+1)
			}
		}
		place.SetZero()
	}
	return right && same(rest, api.Stmt{})
}

func (m model) expr(x api.Expr) bool {
	switch {
	case x.Op == api.ENum:
		return same(x, num(x.V)) && isValue(x.V)
	case x.Op == api.EVar:
		return same(x, variable(x.N)) && slices.Contains(between(0, m.d.Vars-1), x.N)
	case x.Op == api.ELen:
		return same(x, length(x.N)) && slices.Contains(m.numbers("array"), x.N)
	case x.Op >= api.EAdd && x.Op <= api.EMax && len(x.A) == 2:
		return same(x, expr(x.Op, x.A...)) && m.expr(x.A[0]) && m.expr(x.A[1])
	}
	return false
}

func (m model) cond(c api.Cond) bool {
	operands := []int{api.CLt: 2, api.CLe: 2, api.CEq: 2, api.COr: 0}
	conditions := []int{api.CNot: 1, api.CAnd: 2, api.COr: 2}
	if c.Op < 1 || c.Op > 7 || len(c.A) != operands[c.Op] || len(c.C) != conditions[c.Op] {
		return false
	}
	for _, x := range c.A {
		if !m.expr(x) {
			return false
		}
	}
	for _, d := range c.C {
		if !m.cond(d) {
			return false
		}
	}
	return true
}

func sizeOf(x api.Expr) int {
	n := 1
	for _, a := range x.A {
		n += sizeOf(a)
	}
	return n
}

func depthOf(x api.Expr) int {
	n := 0
	for _, a := range x.A {
		n = max(n, depthOf(a))
	}
	return n + 1
}

func sizeOfC(c api.Cond) int {
	n := 1
	for _, a := range c.A {
		n += sizeOf(a)
	}
	for _, d := range c.C {
		n += sizeOfC(d)
	}
	return n
}

func depthOfC(c api.Cond) int {
	n := 0
	for _, a := range c.A {
		n = max(n, depthOf(a))
	}
	for _, d := range c.C {
		n = max(n, depthOfC(d))
	}
	return n + 1
}

func isValue(v int) bool { return -1<<31 <= v && v < 1<<31 }

func areRanges(l []api.Range, most int) bool {
	for _, r := range l {
		if !isValue(r.Lo) || !isValue(r.Hi) || r.Lo > r.Hi || r.Mask < 0 || r.Mask > 255 {
			return false
		}
	}
	return len(l) <= most
}

func rightDecl(x api.Decl) bool {
	right := areRanges(x.Globals, 8) && areRanges(x.Classes, 8) && len(x.Sinks) <= 8 && len(x.Queues) <= 4
	for _, q := range x.Queues {
		right = right && areRanges([]api.Range{q.R}, 1) && q.Cap >= 1 && q.Cap <= 16
	}
	for _, s := range x.Sinks {
		right = right && s >= 0 && s <= 255
	}
	return right && x.Locks >= 0 && x.Locks <= 8 && x.Parts >= 1 && x.Parts <= 16 && x.Firms >= 1 && x.Firms <= 8
}

func rightHead(h api.Head, x api.Decl) bool {
	return isId(h.Id) && h.Firm >= 0 && h.Firm < x.Firms && h.Part >= 0 && h.Part < x.Parts && areRanges(h.Params, 12) && areRanges(h.Given, 4)
}

var nameRE = regexp.MustCompile(`\A[a-zA-Z][a-zA-Z0-9_]{0,19}\z`)

func rightDef(d api.Def, x api.Decl) bool {
	right := rightHead(headOf(d), x) && isId(d.Site) && nameRE.MatchString(d.Name) &&
		len(d.Params) <= d.Vars && d.Vars <= 12 && len(d.Given) <= d.Refs && d.Refs <= 4 &&
		len(d.Arrays) <= 4 && d.Budget >= 1 && d.Budget <= 20000
	for _, a := range d.Arrays {
		right = right && a.Len >= 1 && a.Len <= 64 && a.Of >= 0 && a.Of <= len(d.Params)
	}
	for _, s := range d.Body {
		right = right && modelOf(d, x).stmt(s, 1)
	}
	l := sitesOf(d.Body)
	return right && len(l) <= 200 && different(append(l, d.Site))
}

func headOf(d api.Def) api.Head {
	return api.Head{Id: d.Id, Firm: d.Firm, Part: d.Part, Params: d.Params, Given: d.Given}
}

// sitesOf lists the sites of statements with those within them.
func sitesOf(body []api.Stmt) []int {
	var l []int
	for _, s := range body {
		l = slices.Concat(l, []int{s.Site}, sitesOf(s.Body), sitesOf(s.Else))
	}
	return l
}

func different(l []int) bool {
	m := map[int]bool{}
	for _, n := range l {
		m[n] = true
	}
	return len(m) == len(l)
}

func callsOf(body []api.Stmt) []api.Stmt {
	var l []api.Stmt
	for _, s := range body {
		if s.Op == api.SCall {
			l = append(l, s)
		}
		l = slices.Concat(l, callsOf(s.Body), callsOf(s.Else))
	}
	return l
}

func rightProgram(p api.Program) api.Errno {
	right := rightDecl(p.D) && len(p.Heads) <= 40 && len(p.Threads) <= 4
	heads, defs := map[int]api.Head{}, map[int]api.Def{}
	var ids, open, sites []int
	for _, h := range p.Heads {
		right = right && rightHead(h, p.D)
		heads[h.Id], ids = h, append(ids, h.Id)
	}
	for _, d := range p.Defs {
		h, ok := heads[d.Id]
		right = right && rightDef(d, p.D) && ok && same(h, headOf(d))
		defs[d.Id], open, sites = d, append(open, d.Id), append(append(sites, sitesOf(d.Body)...), d.Site)
	}
	right = right && slices.IsSorted(ids) && different(ids) && slices.IsSorted(open) && different(open) && different(sites)
	for _, d := range p.Defs {
		for _, s := range callsOf(d.Body) {
			h, ok := heads[s.M]
			right = right && ok && len(h.Params) == len(s.Args) && len(h.Given) == len(s.Ptrs)
		}
	}
	for _, id := range p.Threads {
		d, ok := defs[id]
		right = right && ok && len(d.Params) == 0 && len(d.Given) == 0
	}
	switch {
	case !right:
		return api.ErrShape
	case hasCircle(defs):
		return api.ErrCycle
	}
	return api.OK
}

// hasCircle follows calls from each definition as long as something new is reached.
func hasCircle(defs map[int]api.Def) bool {
	for id := range defs {
		reached := map[int]bool{}
		for todo := []int{id}; len(todo) > 0; todo = todo[1:] {
			for _, s := range callsOf(defs[todo[0]].Body) {
				if !reached[s.M] {
					reached[s.M] = true
					todo = append(todo, s.M)
				}
			}
		}
		if reached[id] {
			return true
		}
	}
	return false
}
