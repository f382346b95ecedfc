package shape_test

import (
	"reflect"
	"slices"
	"testing"

	"parole/api"
	"parole/shape"
)

// P6.2: each statement is right, and with any of its numbers, at any depth, far out of its range it is not.
func TestFields(t *testing.T) {
	for op := api.SSet; op <= api.SReturn; op++ {
		accepts(t, holding(example(op)))
		s := tidy(example(op))
		for i, p := range numbersIn(reflect.ValueOf(&s).Elem()) {
			old := p.Int()
			for _, v := range []int64{-2, 1 << 31, 1<<32 + old, 1 << 62, -1 << 62, -1<<31 - 1, 1<<63 - 1, -1 << 63} {
				if p.SetInt(v); v == -2 && isNumber(s) {
					continue // the only number that may be negative
				}
				if e := shape.Def(holding(s), decl()); e != api.ErrShape {
					t.Errorf("operator %d: number %d is %d: %d", op, i, v, e)
				}
			}
			p.SetInt(old)
		}
	}
}

// isNumber says whether a -2 in a statement is V of an ENum.
func isNumber(s api.Stmt) bool {
	found := false
	var look func(v reflect.Value)
	look = func(v reflect.Value) {
		if x, ok := v.Interface().(api.Expr); ok && x.Op == api.ENum && x.V == -2 {
			found = true
		}
		switch v.Kind() {
		case reflect.Struct:
			for i := range v.NumField() {
				look(v.Field(i))
			}
		case reflect.Slice:
			for i := range v.Len() {
				look(v.Index(i))
			}
		}
	}
	look(reflect.ValueOf(s))
	return found
}

// P6.2: N, M and V have exactly the numbers that the table says, and 0 where it says nothing.
func TestNumbers(t *testing.T) {
	for op := api.SSet; op <= api.SReturn; op++ {
		for _, name := range []string{"N", "M", "V"} {
			may := []int{0}
			for _, f := range fieldsOf(op) {
				if f.name == name && f.what == "id" {
					may = between(1, 40)
				} else if f.name == name {
					may = modelOf(holding(), decl()).numbers(f.what)
				}
			}
			for v := -40; v <= 40; v++ {
				s := example(op)
				reflect.ValueOf(&s).Elem().FieldByName(name).SetInt(int64(v))
				if right := shape.Def(holding(s), decl()) == api.OK; right != slices.Contains(may, v) {
					t.Errorf("operator %d with %s = %d: %v", op, name, v, right)
				}
			}
		}
	}
	for _, c := range []struct {
		id    int
		right bool
	}{{1, true}, {maxId, true}, {maxId + 1, false}, {0, false}} {
		s := example(api.SCall)
		s.M = c.id
		if right := shape.Def(holding(s), decl()) == api.OK; right != c.right {
			t.Errorf("call of %d: %v", c.id, right)
		}
	}
}

// P6.2: operators that there are not.
func TestNoStatements(t *testing.T) {
	refuses(t, holding(api.Stmt{}))
	for _, s := range examples()[1:] {
		for _, op := range []int{-1 << 63, -1, 0, 25, 26, 1 << 32, 1<<32 + api.SReturn, 1<<63 - 1} {
			s.Site, s.Op = 1, op
			refuses(t, holding(s))
		}
	}
}

// P6.2: each statement with each other field of each other statement, and without each of its own.
func TestForeignFields(t *testing.T) {
	for op := api.SSet; op <= api.SReturn; op++ {
		for _, name := range []string{"X", "Y", "C", "Args", "Ptrs", "Body", "Else"} {
			has := slices.Contains(fieldsOf(op), field{name: name})
			s := example(op)
			place := reflect.ValueOf(&s).Elem().FieldByName(name)
			place.SetZero()
			right := shape.Def(holding(s), decl()) == api.OK
			if want := !has || len(name) > 1; right != want {
				t.Errorf("operator %d without %s: %v", op, name, right)
			}
			place.Set(reflect.ValueOf(foreign(name)))
			right = shape.Def(holding(s), decl()) == api.OK
			if right != has {
				t.Errorf("operator %d with %s: %v", op, name, right)
			}
		}
	}
}

// foreign returns what is right for a field of a statement that has it.
func foreign(name string) any {
	inner := []api.Stmt{{Site: 11, Op: api.SLock}}
	return map[string]any{
		"X": num(5), "Y": num(5), "C": always(), "Args": []api.Expr{num(5)}, "Ptrs": []int{0}, "Body": inner, "Else": inner,
	}[name]
}

// P6.2: what is not there has nothing in it at all.
func TestEmptyFields(t *testing.T) {
	for _, x := range []api.Expr{{Op: api.ENum}, {N: 1}, {V: 1}, {A: make([]api.Expr, 1)}, {N: -1}, {V: 1 << 32}} {
		s := example(api.SLock)
		s.X = x
		refuses(t, holding(s))
		s = example(api.SSet)
		s.Y = x
		refuses(t, holding(s))
	}
	for _, c := range []api.Cond{always(), {Op: -1}, {A: make([]api.Expr, 1)}, {C: make([]api.Cond, 1)}} {
		s := example(api.SReturn)
		s.C = c
		refuses(t, holding(s))
	}
	s := example(api.SLock)
	s.Args, s.Ptrs, s.Body, s.Else, s.X.A, s.C.A, s.C.C = []api.Expr{}, []int{}, []api.Stmt{}, []api.Stmt{}, []api.Expr{}, []api.Expr{}, []api.Cond{}
	accepts(t, holding(s))
}

// P6.2: calls have at most 12 arguments, and at most 4 references, which may be the same one.
func TestCalls(t *testing.T) {
	for n := range 15 {
		for k := range 7 {
			s := api.Stmt{Site: 1, Op: api.SCall, N: -1, M: 70, Args: slices.Repeat([]api.Expr{num(1)}, n), Ptrs: slices.Repeat([]int{2}, k)}
			if right := shape.Def(holding(s), decl()) == api.OK; right != (n <= 12 && k <= 4) {
				t.Errorf("%d arguments and %d references: %v", n, k, right)
			}
		}
	}
	for _, p := range [][]int{{-1}, {3}, {0, 3}, {0, 1, 2, 3}} {
		refuses(t, holding(api.Stmt{Site: 1, Op: api.SCall, N: -1, M: 70, Ptrs: p}))
	}
}

// P6.2: where a definition has nothing of a kind, there is no number of it.
func TestNothingThere(t *testing.T) {
	bare := func(s api.Stmt) api.Def {
		s.Site = 1
		return api.Def{Id: 7, Site: 9000, Name: "f", Budget: 1, Body: []api.Stmt{s}}
	}
	empty := api.Decl{Parts: 1, Firms: 1}
	for _, s := range []api.Stmt{
		{Op: api.SSet, X: num(1)}, {Op: api.SStore, X: num(1), Y: num(1)}, {Op: api.SWrite, X: num(1)}, {Op: api.SNew}, {Op: api.SFree}, {Op: api.SPut, X: num(1)},
		{Op: api.SCall, M: 1}, {Op: api.SCall, N: -1, M: 1, Ptrs: []int{0}}, {Op: api.STry}, {Op: api.SLock}, {Op: api.SUnlock}, {Op: api.SSend, X: num(1)}, {Op: api.SSink, X: num(1)},
		{Op: api.SUse, M: 1}, {Op: api.SReturn, X: variable(0)}, {Op: api.SReturn, X: length(0)},
	} {
		if e := shape.Def(bare(s), empty); e != api.ErrShape {
			t.Errorf("%+v: %d", s, e)
		}
	}
	for _, s := range []api.Stmt{{Op: api.SUse}, {Op: api.SCall, N: -1, M: 1}, {Op: api.SReturn, X: num(1)}, {Op: api.SThrow, V: 1}} {
		if e := shape.Def(bare(s), empty); e != api.OK {
			t.Errorf("%+v: %d", s, e)
		}
	}
}
