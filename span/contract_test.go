package span_test

import (
	"testing"

	"parole/api"
	"parole/span"
)

// P10.1, J1: all numbers near each other.
func TestValid(t *testing.T) {
	for first := -3; first <= 3; first++ {
		for last := -3; last <= 5; last++ {
			for m := -2; m <= 9; m++ {
				for r := -2; r <= 9; r++ {
					a := api.Abs{Lo: first, Hi: last, M: m, R: r}
					if span.Valid(a) != valid(a) {
						t.Errorf("%v is valid: %t", a, span.Valid(a))
					}
				}
			}
		}
	}
}

// P10.1, J1: both sides of the limits.
func TestValidAtLimits(t *testing.T) {
	for _, c := range []struct {
		a  api.Abs
		is bool
	}{
		{api.Abs{Lo: lo, Hi: lo, M: 1}, true}, {api.Abs{Lo: lo - 1, Hi: lo - 1, M: 1}, false}, {api.Abs{Lo: lo - 1, Hi: 0, M: 1}, false}, {api.Abs{Lo: hi, Hi: hi, M: 1}, true}, {api.Abs{Lo: hi + 1, Hi: hi + 1, M: 1}, false}, {api.Abs{Lo: 0, Hi: hi + 1, M: 1}, false}, {api.Abs{Lo: 1, Hi: 0, M: 1}, false},
		{api.Abs{Lo: lo, Hi: hi, M: 1<<32 - 1, R: 1<<31 - 1}, true}, {api.Abs{Lo: lo, Hi: hi, M: 1<<32 - 1}, false}, {api.Abs{Lo: lo, Hi: hi, M: 1 << 32, R: 1 << 31}, false}, {api.Abs{Lo: lo, Hi: hi, M: 2}, false}, {api.Abs{Lo: lo, Hi: hi, M: 3, R: 1}, true}, {api.Abs{Lo: lo, Hi: 0, M: 1 << 31}, true},
		{api.Abs{M: 1, Mask: 255}, true}, {api.Abs{M: 1, Mask: 256}, false}, {api.Abs{M: 1, Mask: -1}, false}, {api.Abs{Hi: 6, M: 3, Mask: 255}, true}, {api.Abs{Hi: 6, M: 3, Mask: 256}, false}, {api.Abs{Hi: 6, M: 3, Mask: -256}, false},
		{api.Abs{}, false}, {api.Abs{M: 2}, false}, {api.Abs{M: 1, R: 1}, false}, {api.Abs{Lo: 4, Hi: 4, M: 3, R: 1}, false},
		{api.Abs{Lo: -5, Hi: 1, M: 3, R: 1}, true}, {api.Abs{Lo: -5, Hi: 1, M: 3, R: -2}, false}, {api.Abs{Lo: -5, Hi: 1, M: 3, R: 4}, false}, {api.Abs{Lo: -5, Hi: 1, M: -3, R: 1}, false}, {api.Abs{Lo: -5, Hi: 1, M: 6, R: 1}, true}, {api.Abs{Lo: -5, Hi: 1, M: 12, R: 7}, false}, {api.Abs{Lo: -5, Hi: 1, M: 4, R: 3}, false},
		{api.Abs{Lo: -1 << 63, Hi: -1 << 63, M: 1}, false}, {api.Abs{Lo: -1 << 63, Hi: 1<<63 - 1, M: 1}, false}, {api.Abs{Lo: 1<<63 - 1, Hi: -1 << 63, M: 1}, false}, {api.Abs{Lo: 1<<63 - 1, Hi: -1 << 63, M: 2, R: 1}, false}, {api.Abs{Lo: 0, Hi: 1, M: -1 << 63}, false}, {api.Abs{Lo: 0, Hi: 1, M: 1<<63 - 1}, false},
	} {
		if span.Valid(c.a) != c.is {
			t.Errorf("%v is valid: %t", c.a, !c.is)
		}
	}
	for i, a := range append(few(), wide()...) {
		if !span.Valid(a) || !valid(a) {
			t.Errorf("set %d, %v, is not valid", i, a)
		}
	}
}

// P10.1, J1: each number of a valid set, changed.
func TestValidSetChanged(t *testing.T) {
	m := newMaker(1)
	for range 20000 {
		a := m.set()
		n := []*int{&a.Lo, &a.Hi, &a.M, &a.R, &a.Mask}[m.r.Intn(5)]
		*n += []int{-256, -a.M, -1, 1, a.M, 256, m.value()}[m.r.Intn(7)]
		if span.Valid(a) != valid(a) {
			t.Fatalf("%v is valid: %t", a, span.Valid(a))
		}
	}
}

// P10.1, J1.
func TestOfAllIn(t *testing.T) {
	for _, v := range edges {
		for _, mask := range []int{0, 1, 130, 255} {
			if a := span.Of(word(v, mask)); a != (api.Abs{Lo: v, Hi: v, M: 1, Mask: mask}) {
				t.Errorf("Of(%d, %d) is %v", v, mask, a)
			}
			if a := span.All(mask); a != (api.Abs{Lo: lo, Hi: hi, M: 1, Mask: mask}) {
				t.Errorf("All(%d) is %v", mask, a)
			}
			for _, w := range edges {
				if v > w {
					continue
				}
				if a := span.In(api.Range{Lo: v, Hi: w, Mask: mask}); a != (api.Abs{Lo: v, Hi: w, M: 1, Mask: mask}) {
					t.Errorf("In(%d, %d, %d) is %v", v, w, mask, a)
				}
			}
		}
	}
}

// P10.1, J1: each value of a set, those beside it, and no others.
func TestHas(t *testing.T) {
	for _, a := range few() {
		is := map[int]bool{}
		for _, v := range valuesOf(a) {
			is[v] = true
		}
		near := append([]int{-1 << 63, 1<<63 - 1, lo - 1, hi + 1, a.Lo - 1<<32, a.Hi + 1<<32}, edges...)
		for v := range is {
			near = append(near, v, v-1, v+1, v-a.M, v+a.M)
		}
		for _, v := range near {
			if span.Has(a, word(v, 0)) != is[v] {
				t.Fatalf("Has(%v, %d) is %t", a, v, !is[v])
			}
		}
	}
}

// P10.1, J1.
func TestHasMask(t *testing.T) {
	for _, c := range []struct {
		a, mask int
		is      bool
	}{
		{0, 0, true}, {0, 1, false}, {5, 0, true}, {5, 4, true}, {5, 5, true}, {5, 2, false}, {5, 7, false}, {255, 255, true}, {127, 128, false}, {255, 256, false}, {255, -1, false}, {0, -1 << 63, false},
	} {
		for _, a := range []api.Abs{one(3), set(-3, 9, 6)} {
			if span.Has(masked(a, c.a), word(3, c.mask)) != c.is {
				t.Errorf("mask %d in %d: %t", c.mask, c.a, !c.is)
			}
		}
		if span.Has(masked(one(3), c.a), word(4, c.mask)) {
			t.Errorf("4 is in 3, with the mask %d", c.mask)
		}
	}
}

// P10.1, J2.
func TestJoinAndWiden(t *testing.T) {
	for _, c := range []struct{ a, b, join, widen api.Abs }{
		{one(4), one(10), set(4, 10, 6), set(4, hi-3, 6)}, {set(4, 10, 6), one(7), set(4, 10, 3), set(4, 10, 3)}, {one(4), one(4), one(4), one(4)}, {one(10), one(4), set(4, 10, 6), set(lo, 10, 6)},
		{set(0, 9, 3), set(6, 12, 3), set(0, 12, 3), set(0, hi-1, 3)}, {set(6, 12, 3), set(0, 9, 3), set(0, 12, 3), set(lo+2, 12, 3)}, {set(6, 12, 3), set(3, 15, 3), set(3, 15, 3), set(lo+2, hi-1, 3)}, {set(0, 12, 3), set(3, 9, 6), set(0, 12, 3), set(0, 12, 3)},
		{set(0, 12, 4), set(1, 9, 4), set(0, 12, 1), set(0, 12, 1)}, {set(0, 12, 6), set(4, 8, 2), set(0, 12, 2), set(0, 12, 2)}, {set(0, 12, 6), set(4, 14, 10), set(0, 14, 2), set(0, hi-1, 2)},
		{one(lo), one(hi), set(lo, hi, 1<<32-1), set(lo, hi, 1<<32-1)}, {one(0), one(lo), set(lo, 0, 1<<31), set(lo, 0, 1<<31)}, {one(-1), one(hi), set(-1, hi, 1<<31), set(-1, hi, 1<<31)}, {set(lo, hi, 1<<32-1), one(0), set(lo, hi, 1), set(lo, hi, 1)}, {one(hi - 1), one(hi), set(hi-1, hi, 1), set(hi-1, hi, 1)}, {one(1), one(lo), set(lo, 1, 1<<31+1), set(lo, 1, 1<<31+1)},
	} {
		for _, m := range [][2]int{{0, 0}, {1, 2}, {3, 1}, {1, 255}} {
			a, b := masked(c.a, m[0]), masked(c.b, m[1])
			join, widen := masked(c.join, m[0]|m[1]), masked(c.widen, m[0]|m[1])
			if j := span.Join(a, b); j != join {
				t.Errorf("Join(%v, %v) is %v", a, b, j)
			}
			if w := span.Widen(a, b); w != widen {
				t.Errorf("Widen(%v, %v) is %v", a, b, w)
			}
		}
	}
}

// P10.1, J2.
func TestMeet(t *testing.T) {
	for _, c := range []struct {
		a, b, want api.Abs
		is         bool
	}{
		{set(0, 12, 4), set(2, 20, 6), one(8), true}, {set(0, 24, 4), set(2, 20, 6), set(8, 20, 12), true}, {set(0, 24, 4), set(1, 21, 2), api.Abs{}, false}, {set(0, 9, 3), set(10, 19, 3), api.Abs{}, false}, {set(0, 9, 3), set(9, 18, 3), one(9), true}, {set(0, 8, 4), set(3, 27, 3), api.Abs{}, false}, {set(0, 12, 4), set(3, 27, 3), one(12), true},
		{one(6), set(0, 9, 3), one(6), true}, {one(5), set(0, 9, 3), api.Abs{}, false}, {one(12), set(0, 9, 3), api.Abs{}, false}, {one(-3), set(0, 9, 3), api.Abs{}, false}, {one(6), one(6), one(6), true}, {one(6), one(7), api.Abs{}, false}, {one(0), one(0), one(0), true},
		{set(lo, hi, 1), set(lo, hi, 1<<32-1), set(lo, hi, 1<<32-1), true}, {set(lo, 0, 1<<31), set(lo, hi, 1<<32-1), one(lo), true}, {set(lo, hi, 65537), set(lo, hi, 65535), set(lo, hi, 1<<32-1), true}, {set(lo, hi-1, 1<<31-1), set(lo, hi, 1<<32-1), one(lo), true}, {set(lo, hi-1, 1<<31-1), set(-1, hi, 1<<31), one(-1), true},
	} {
		for _, m := range [][3]int{{0, 0, 0}, {1, 2, 0}, {3, 6, 2}, {255, 255, 255}} {
			want := api.Abs{}
			if c.is {
				want = masked(c.want, m[2])
			}
			for _, p := range [][2]api.Abs{{c.a, c.b}, {c.b, c.a}} {
				if x, is := span.Meet(masked(p[0], m[0]), masked(p[1], m[1])); x != want || is != c.is {
					t.Errorf("Meet of %v and %v is %v, %t", p[0], p[1], x, is)
				}
			}
		}
	}
}
