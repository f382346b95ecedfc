package product_test

import (
	"math"
	"reflect"
	"testing"

	"parole/api"
	"parole/product"
)

// numbersIn returns all numbers in what x points to.
func numbersIn(v reflect.Value) []reflect.Value {
	var l []reflect.Value
	switch v.Kind() {
	case reflect.Struct:
		for i := range v.NumField() {
			l = append(l, numbersIn(v.Field(i))...)
		}
	case reflect.Slice:
		for i := range v.Len() {
			l = append(l, numbersIn(v.Index(i))...)
		}
	case reflect.Int:
		l = append(l, v)
	}
	return l
}

// change changes some numbers in what x points to.
func (m maker) change(x any) {
	l := numbersIn(reflect.ValueOf(x).Elem())
	for range m.from(0, 3) {
		if len(l) > 0 {
			l[m.r.Intn(len(l))].SetInt(int64(pick(m, math.MinInt, -1<<40, -2, -1, 0, 1, 2, 3, 4, 64, 1<<40, math.MaxInt, m.value())))
		}
	}
}

// LANGUAGE.md: all calls end without a panic, also for programs, inputs and states that are not right, or do not fit together; I5: arguments stay as they are.
func TestOddArguments(t *testing.T) {
	for x := range states(t, 9000, 120) {
		m := newMaker(int64(len(x.s.Log)))
		p, in, s := tidy(x.p), tidy(x.in), tidy(x.s)
		m.change(&p.Defs)
		m.change(&p.Threads)
		m.change(&p.D.Queues)
		m.change(&in)
		m.change(&s)
		keptP, keptIn, keptS := tidy(p), tidy(in), tidy(s)
		for _, thread := range []int{-1, 0, 1, 2, 3, 4} {
			if next, e := product.Step(p, in, s, thread); e != api.OK && !same(next, s) {
				t.Fatalf("Step: error %d, but\n%+v", e, next)
			}
		}
		product.Ready(p, in, s)
		product.Ended(p, s)
		for _, next := range []func() (api.State, api.Errno){
			func() (api.State, api.Errno) { return product.New(p, in) },
			func() (api.State, api.Errno) { return product.Play(p, in, m.schedule(9)) },
		} {
			if next, e := next(); e != api.OK && !same(next, api.State{}) {
				t.Fatalf("error %d, but\n%+v", e, next)
			}
		}
		if !same(p, keptP) || !same(in, keptIn) || !same(s, keptS) {
			t.Fatalf("arguments have changed:\n%+v\n%+v\n%+v", keptP, keptIn, keptS)
		}
	}
}

// States of other programs, and none at all.
func TestOddStates(t *testing.T) {
	p := threads(list(input(api.SRead, 0, 1), lock(3)), list(input(api.SRecv, 0, 1)), list(input(api.SSource, 0, 1)))
	small := begin(t, nil).s
	for _, s := range []api.State{{}, small, {Answers: make([][]api.Answer, 3)}, {Answers: make([][]api.Answer, 9)}} {
		for _, in := range [][][]int{nil, {{1}}, noInputs()} {
			for thread := range 4 {
				if next, e := product.Step(p, in, s, thread); e == api.OK || !same(next, s) {
					t.Errorf("Step: error %d,\n%+v", e, next)
				}
			}
			if l := product.Ready(p, in, s); len(l) != 0 {
				t.Errorf("Ready: %v", l)
			}
		}
	}
	if l := product.Ended(p, small); len(l) != 0 {
		t.Errorf("Ended: %v", l)
	}
	p.D.Locks = -1
	if s, e := product.New(p, noInputs()); e != api.ErrArg || !same(s, api.State{}) {
		t.Errorf("New: error %d, %+v", e, s)
	}
}
