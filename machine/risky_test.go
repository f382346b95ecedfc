package machine_test

import (
	"reflect"
	"slices"

	"parole/api"
	"parole/shape"
)

// risky returns a right program that differs from p in a few places.
func (m maker) risky(p api.Program) api.Program {
	for {
		q := tidy(p)
		for range m.from(1, 8) {
			m.change(&q)
		}
		for _, d := range q.Defs {
			i := slices.IndexFunc(q.Heads, func(h api.Head) bool { return h.Id == d.Id })
			if i >= 0 {
				q.Heads[i] = shape.Head(d)
			}
		}
		if shape.Program(q) == api.OK {
			return q
		}
	}
}

func (m maker) change(p *api.Program) {
	if len(p.Defs) == 0 || m.oneIn(8) {
		m.changeNumber(&p.D)
		p.D.Sinks[0] = 0
		return
	}
	d := &p.Defs[m.r.Intn(len(p.Defs))]
	lists := listsIn(&d.Body)
	a, b := pick(m, lists...), pick(m, lists...)
	switch k := m.r.Intn(16); {
	case k == 0:
		d.Budget = m.from(1, 9)
	case k == 1:
		m.changeNumber(d)
	case k < 5:
		m.bare(d)
	case k < 8:
		m.unpair(lists)
	case k < 10:
		c := pick(m, append(valuesIn[api.Cond](valueOf(d)), nil)...)
		if c != nil && c.Op != 0 {
			*c = join(api.CNot, *c)
		}
	case len(*a) == 0:
	case k < 12:
		i := m.r.Intn(len(*a))
		*a = slices.Delete(slices.Clone(*a), i, i+1)
	case k < 13:
		reflect.Swapper(*a)(m.r.Intn(len(*a)), m.r.Intn(len(*a)))
	case k < 15:
		s := tidy(pick(m, *a...))
		m.renumber(&s)
		*b = slices.Insert(slices.Clone(*b), m.r.Intn(len(*b)+1), s)
	default:
		m.changeNumber(&(*a)[m.r.Intn(len(*a))])
	}
}

// bare puts an operand or a variable in the place of an expression, so that it can be out of its range.
func (m maker) bare(d *api.Def) {
	e := pick(m, append(valuesIn[api.Expr](valueOf(d)), nil)...)
	switch {
	case e == nil || e.Op == 0:
	case m.oneIn(2):
		*e = variable(m.from(0, 4))
	default:
		for len(e.A) > 0 {
			*e = e.A[0]
		}
	}
}

// unpair drops a statement that others need, or changes what it is about.
func (m maker) unpair(lists []*[]api.Stmt) {
	m.r.Shuffle(len(lists), func(i, j int) { lists[i], lists[j] = lists[j], lists[i] })
	for _, l := range lists {
		for i, s := range *l {
			needed := slices.Contains([]int{api.SLock, api.SUnlock, api.SUse, api.SNew, api.SFree}, s.Op)
			switch {
			case !needed || m.oneIn(3):
			case m.oneIn(2):
				*l = slices.Delete(slices.Clone(*l), i, i+1)
				return
			case s.Op == api.SNew || s.Op == api.SFree:
				(*l)[i].N = m.from(0, 3)
				return
			case s.Op == api.SUnlock && m.oneIn(2):
				(*l)[i].Op = api.SLock
				return
			default:
				(*l)[i].M = m.from(0, 3)
				return
			}
		}
	}
}

// renumber gives statements sites that are not used yet.
func (m maker) renumber(s *api.Stmt) {
	s.Site = m.from(1<<20, 1<<30)
	for _, l := range [][]api.Stmt{s.Body, s.Else} {
		for i := range l {
			m.renumber(&l[i])
		}
	}
}

// listsIn returns all lists of statements, the outermost first.
func listsIn(l *[]api.Stmt) []*[]api.Stmt {
	out := []*[]api.Stmt{l}
	for i := range *l {
		out = append(out, listsIn(&(*l)[i].Body)...)
		out = append(out, listsIn(&(*l)[i].Else)...)
	}
	return out
}

// changeNumber changes any number in what x points to.
func (m maker) changeNumber(x any) {
	l := valuesIn[int](valueOf(x))
	n := pick(m, l...)
	*n = pick(m, *n-1, *n+1, *pick(m, l...), 0, -1, m.value(), m.mask())
}

// valueOf returns what x points to.
func valueOf(x any) reflect.Value { return reflect.ValueOf(x).Elem() }

// valuesIn returns all values of a type in v, those in each other, too.
func valuesIn[T any](v reflect.Value) []*T {
	var l []*T
	if x, ok := v.Addr().Interface().(*T); ok {
		l = append(l, x)
	}
	switch v.Kind() {
	case reflect.Struct:
		for i := range v.NumField() {
			l = append(l, valuesIn[T](v.Field(i))...)
		}
	case reflect.Slice:
		for i := range v.Len() {
			l = append(l, valuesIn[T](v.Index(i))...)
		}
	}
	return l
}
