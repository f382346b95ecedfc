package rules_test

import (
	"math"
	"testing"

	"parole/api"
	"parole/rules"
)

// Fields of rules, in the order of M2.
const (
	fieldId = iota
	fieldVer
	fieldFirm
	fieldOp
	fieldALo
	fieldAHi
	fieldBLo
	fieldBHi
	fieldLo
	fieldHi
	numFields
)

// P13.1 and P13.6, M1: both sides of the limit of each field.
func TestRight(t *testing.T) {
	r := rule(1, api.EMul, -3, 3, -2, 5, -9, 9)
	for _, c := range []struct {
		field        int
		right, wrong []int
	}{
		{fieldId, []int{1, 2, maxNumber - 1, maxNumber}, []int{math.MinInt, -1, 0, maxNumber + 1, 1<<32 + 1, math.MaxInt}},
		{fieldVer, []int{1, 2, maxNumber - 1, maxNumber}, []int{math.MinInt, -1, 0, maxNumber + 1, 1<<32 + 1, math.MaxInt}},
		{fieldFirm, []int{0, 1, 6, 7}, []int{math.MinInt, -1, 8, 1 << 32, math.MaxInt}},
		{fieldOp, operators, noOperators},
		{fieldALo, []int{-4, 2, 3, -500}, []int{4, hi, hi + 1, lo - 1, math.MinInt, math.MaxInt}},
		{fieldAHi, []int{-3, -2, 500}, []int{-4, lo, lo - 1, hi + 1, math.MinInt, math.MaxInt}},
		{fieldBLo, []int{-3, 4, 5, -500}, []int{6, hi, hi + 1, lo - 1, math.MinInt, math.MaxInt}},
		{fieldBHi, []int{-2, -1, 500}, []int{-3, lo, lo - 1, hi + 1, math.MinInt, math.MaxInt}},
		{fieldLo, []int{lo, lo + 1, 8, 9}, []int{10, hi, hi + 1, lo - 1, math.MinInt, math.MaxInt}},
		{fieldHi, []int{-9, -8, hi - 1, hi}, []int{-10, lo, lo - 1, hi + 1, math.MinInt, math.MaxInt}},
	} {
		for _, n := range c.right {
			if e := rules.Right(with(r, c.field, n)); e != api.OK {
				t.Errorf("field %d as %d: %d", c.field, n, e)
			}
		}
		for _, n := range c.wrong {
			if e := rules.Right(with(r, c.field, n)); e != api.ErrRule {
				t.Errorf("field %d as %d: %d", c.field, n, e)
			}
		}
	}
	if e := rules.Right(api.Rule{}); e != api.ErrRule {
		t.Error(e)
	}
}

// P13.1 and P13.6, M1: both sides of 4096 pairs, at both ends of the values, for all ways to have so many.
func TestRightPairs(t *testing.T) {
	for n := 1; n <= 4200; n++ {
		for _, m := range []int{1, 4096 / n, 4096/n + 1, 4096 + 1} {
			want := api.OK
			switch {
			case m == 0:
				continue
			case n*m > 4096:
				want = api.ErrBig
			}
			for _, r := range []api.Rule{rule(1, api.EAdd, lo, lo+n-1, hi-m+1, hi, lo, hi), rule(1, api.EAdd, 5, 5+m-1, -n, -1, 0, 0)} {
				if e := rules.Right(r); e != want {
					t.Fatalf("%d times %d pairs, %v: %d", n, m, r, e)
				}
			}
		}
	}
}

// P13.1 and P13.6, M1: as many pairs as there can be, whose number is 2^64, and others that are 0 modulo a power of 2.
func TestRightManyPairs(t *testing.T) {
	ends := func(bits int) (int, int) { return lo, lo + 1<<bits - 1 }
	for a := range 33 {
		for b := range 33 {
			r := rule(1, api.ESub, 0, 0, 0, 0, 0, 0)
			r.ALo, r.AHi = ends(a)
			r.BLo, r.BHi = ends(b)
			want := api.OK
			if a+b > 12 {
				want = api.ErrBig
			}
			if e := rules.Right(r); e != want {
				t.Errorf("2^%d times 2^%d pairs: %d", a, b, e)
			}
			if e := rules.Right(with(r, fieldVer, 0)); e != api.ErrRule {
				t.Errorf("2^%d times 2^%d pairs without a version: %d", a, b, e)
			}
			if e := rules.Right(with(r, fieldHi, -1)); e != api.ErrRule {
				t.Errorf("2^%d times 2^%d pairs without results: %d", a, b, e)
			}
		}
	}
}

// P13.1 and P13.6, M1: any numbers, of 64 bits, too.
func TestRightAgainstModel(t *testing.T) {
	m := newMaker(1)
	seen := map[api.Errno]int{}
	for range 50000 {
		r := pick(m, m.anyRule(), m.smallRule())
		for range m.r.Intn(3) {
			f := m.r.Intn(numFields)
			n := *fields(&r)[f]
			r = with(r, f, pick(m, n+1, n-1, -n, m.value(), n+1<<32, lo-1, hi+1, 0, 8, int(m.r.Uint64())))
		}
		want := modelRight(r)
		if e := rules.Right(r); e != want {
			t.Fatalf("Right(%v) is %d, not %d", r, e, want)
		}
		seen[want]++
	}
	for _, e := range []api.Errno{api.OK, api.ErrRule, api.ErrBig} {
		if seen[e] < 5000 {
			t.Errorf("only %d rules with %d", seen[e], e)
		}
	}
}
