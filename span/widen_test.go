package span_test

import (
	"testing"

	"parole/api"
	"parole/span"
)

// modelWiden is what J2 says, with the values of j at the ends found apart.
func modelWiden(a, b api.Abs) api.Abs {
	j := masked(hull(append(corners(a), corners(b)...)), a.Mask|b.Mask)
	if j == a {
		return a
	}
	first, last, m := j.Lo, j.Hi, stepOf(j)
	if m > 0 && j.Lo < a.Lo {
		first -= (j.Lo - lo) / m * m
	}
	if m > 0 && j.Hi > a.Hi {
		last += (hi - j.Hi) / m * m
	}
	return masked(byStep(first, last, m), j.Mask)
}

// P10.1, J2.
func TestWidenAgainstModel(t *testing.T) {
	check := func(a, b api.Abs) {
		if w := span.Widen(a, b); w != modelWiden(a, b) {
			t.Fatalf("Widen(%v, %v) is %v, not %v", a, b, w, modelWiden(a, b))
		}
	}
	for _, a := range few() {
		for _, b := range few() {
			check(a, b)
			check(masked(a, 1), masked(b, 3))
		}
	}
	m := newMaker(10)
	for range 50000 {
		a, b := m.set(), m.set()
		check(a, b)
		check(a, m.part(a))
		check(m.part(b), b)
	}
}

// P10.5: both sets, with all their words.
func TestWidenHasBoth(t *testing.T) {
	m := newMaker(11)
	for range 50000 {
		a, b := m.set(), m.set()
		w := span.Widen(a, b)
		if !span.Leq(a, w) || !span.Leq(b, w) || !span.Has(w, m.word(a)) || !span.Has(w, m.word(b)) {
			t.Fatalf("Widen(%v, %v) is %v", a, b, w)
		}
		if span.Widen(w, a) != w || span.Widen(w, b) != w {
			t.Fatalf("Widen(%v, ..) of %v and %v goes on", w, a, b)
		}
	}
}

// changes returns how often a set changes, while it is widened by what next gives for it, which ends by false.
func changes(t *testing.T, a api.Abs, next func(a api.Abs) (api.Abs, bool)) int {
	t.Helper()
	n := 0
	for range 5000 {
		b, ok := next(a)
		if !ok {
			break
		}
		w := span.Widen(a, b)
		if w != a {
			n++
		}
		if !span.Leq(a, w) || !span.Leq(b, w) {
			t.Fatalf("Widen(%v, %v) is %v", a, b, w)
		}
		a = w
	}
	return n
}

// P10.5.
func TestWideningEnds(t *testing.T) {
	m := newMaker(12)
	for range 300 {
		if n := changes(t, m.set(), func(a api.Abs) (api.Abs, bool) { return m.set(), m.r.Intn(1000) > 0 }); n > 110 {
			t.Fatalf("%d changes", n)
		}
	}
}

// slow returns a set that changes a as little as possible: by a class of data, by the next value behind an end, or by a step that is half as long.
func slow(a api.Abs) (api.Abs, bool) {
	m := stepOf(a)
	switch {
	case a.Mask < 255:
		return masked(one(a.Lo), (a.Mask+1)&^a.Mask), true
	case m == 0:
		return one(a.Lo + 1<<31), true
	case a.Lo-m >= lo:
		return one(a.Lo - m), true
	case a.Hi+m <= hi:
		return one(a.Hi + m), true
	case m > 1:
		return one(a.Lo + m/2), true
	}
	return api.Abs{}, false
}

// P10.5: a sequence that goes on for as long as it can.
func TestWideningSlowly(t *testing.T) {
	for _, first := range []int{lo, lo + 7, -1 << 30, -12345, -1} {
		if n := changes(t, one(first), slow); n > 110 || n < 60 {
			t.Errorf("%d changes from %d on", n, first)
		}
	}
	count := 0
	if n := changes(t, one(0), func(a api.Abs) (api.Abs, bool) { count++; return one(count), count < 1000 }); n > 2 {
		t.Errorf("%d changes by 1, 2, ..", n)
	}
}
