package span_test

import (
	"testing"

	"parole/api"
	"parole/num"
	"parole/span"
)

// P10.2: all values of sets with few of them.
func TestOperatorsAreSound(t *testing.T) {
	l := few()
	for _, op := range operators {
		for i, a := range l {
			for j := i % 3; j < len(l); j += 3 {
				x := span.Op(op, a, l[j])
				for _, v := range valuesOf(a) {
					for _, w := range valuesOf(l[j]) {
						if r := num.Op(op, v, w); !span.Has(x, word(r, 0)) {
							t.Fatalf("Op(%d, %v, %v) is %v without %d, of %d and %d", op, a, l[j], x, r, v, w)
						}
					}
				}
			}
		}
	}
}

// P10.2: words of any sets, with their masks.
func TestOperatorsAreSoundForWords(t *testing.T) {
	m := newMaker(3)
	for range 30000 {
		op, a, b := operators[m.r.Intn(len(operators))], m.set(), m.set()
		x := span.Op(op, a, b)
		for range 10 {
			v, w := m.word(a), m.word(b)
			if r := word(num.Op(op, v.V, w.V), v.Mask|w.Mask); !span.Has(x, r) {
				t.Fatalf("Op(%d, %v, %v) is %v without %v, of %v and %v", op, a, b, x, r, v, w)
			}
		}
	}
}

// P10.2, also for operators that there are not, which have the value 0.
func TestNoOperatorsAreSound(t *testing.T) {
	m := newMaker(4)
	for range 2000 {
		op, a, b := noOperators[m.r.Intn(len(noOperators))], m.set(), m.set()
		v, w := m.word(a), m.word(b)
		if r := word(num.Op(op, v.V, w.V), v.Mask|w.Mask); !span.Has(span.Op(op, a, b), r) {
			t.Fatalf("Op(%d, %v, %v) is without %v", op, a, b, r)
		}
	}
}

// P10.3: a set with both has Join, whatever set this is.
func TestJoinIsLeast(t *testing.T) {
	l := between(-3, 1, 6)
	for _, a := range l {
		for _, b := range l {
			j := span.Join(a, b)
			if j != hull(append(valuesOf(a), valuesOf(b)...)) || !isWithin(a, j) || !isWithin(b, j) {
				t.Fatalf("Join(%v, %v) is %v", a, b, j)
			}
			for _, c := range l {
				if isWithin(a, c) && isWithin(b, c) && !isWithin(j, c) {
					t.Fatalf("%v and %v are within %v, Join is %v", a, b, c, j)
				}
			}
		}
	}
}

// P10.3, also for any sets: those of their values that are in no lesser ones make Join.
func TestJoinIsHull(t *testing.T) {
	m := newMaker(5)
	for range 50000 {
		a, b := m.set(), m.set()
		if j := span.Join(a, b); j != masked(hull(append(corners(a), corners(b)...)), a.Mask|b.Mask) || span.Join(b, a) != j || span.Join(a, a) != a {
			t.Fatalf("Join(%v, %v) is %v", a, b, j)
		}
	}
}

// isWithin says of sets with few values whether b has all those of a.
func isWithin(a, b api.Abs) bool {
	return len(shared(a, b)) == len(valuesOf(a))
}

// shared returns the values of a that are in b, too.
func shared(a, b api.Abs) []int {
	is := map[int]bool{}
	for _, v := range valuesOf(b) {
		is[v] = true
	}
	return keep(a, func(v int) bool { return is[v] })
}

// P10.3: exactly the words in both, value by value.
func TestMeetHasBoth(t *testing.T) {
	for _, a := range few() {
		for _, b := range few() {
			var want api.Abs
			l := shared(a, b)
			if len(l) > 0 {
				want = masked(hull(l), 2)
				if len(valuesOf(want)) != len(l) {
					t.Fatalf("%v and %v have no set in common", a, b)
				}
			}
			if x, is := span.Meet(masked(a, 3), masked(b, 6)); x != want || is != (len(l) > 0) {
				t.Fatalf("Meet(%v, %v) is %v, %t, not %v", a, b, x, is, want)
			}
		}
	}
}

// modelMeet looks for the first value of both among those of the set with the greater step, and for the second one behind it.
func modelMeet(a, b api.Abs) (api.Abs, bool) {
	if a.M < b.M {
		a, b = b, a
	}
	last := min(a.Hi, b.Hi)
	first := a.Lo
	if first < b.Lo {
		first += (b.Lo - first + a.M - 1) / a.M * a.M
	}
	for n := 0; first <= last && n <= b.M; n++ {
		if (first-b.Lo)%b.M == 0 {
			apart := times(a.M, b.M)
			if apart.Div(apart, gcd(whole(a.M), whole(b.M))); apart.Cmp(whole(last-first)) > 0 {
				return one(first), true
			}
			return byStep(first, last, int(apart.Int64())), true
		}
		first += a.M
	}
	return api.Abs{}, false
}

// P10.3, also for any sets, with steps of all sizes.
func TestMeetAgainstModel(t *testing.T) {
	m := newMaker(6)
	found := 0
	check := func(a, b api.Abs) {
		want, is := modelMeet(a, b)
		if is {
			want.Mask = a.Mask & b.Mask
			found++
		}
		if x, ok := span.Meet(a, b); x != want || ok != is {
			t.Fatalf("Meet(%v, %v) is %v, %t, not %v, %t", a, b, x, ok, want, is)
		}
	}
	sets := wide()
	for i, a := range sets {
		for j := i % 5; j < len(sets); j += 5 {
			check(a, sets[j])
		}
	}
	for range 20000 {
		check(m.set(), m.set())
	}
	for range 1000 { // steps that have nothing in common, as wide as possible
		a, b := m.steep(), m.steep()
		check(a, b)
	}
	if found < 10000 {
		t.Errorf("only %d of them have something in common", found)
	}
}

// steep returns a set from a value near MinInt to one near MaxInt, with some ten thousand values.
func (m maker) steep() api.Abs {
	first, step := lo+m.r.Intn(1000), 40000+m.r.Intn(60000)
	return masked(set(first, first+(hi-first)/step*step, step), m.mask())
}

// P10.3: what is in both is in Meet, and what is in Meet is in both.
func TestMeetOfWords(t *testing.T) {
	m := newMaker(7)
	for range 30000 {
		a, b := m.set(), m.set()
		x, is := span.Meet(a, b)
		for range 5 {
			for _, w := range []api.Word{m.word(a), m.word(b), word(m.value(), m.mask())} {
				if both := span.Has(a, w) && span.Has(b, w); both != (is && span.Has(x, w)) {
					t.Fatalf("Meet(%v, %v) is %v, %t; both have %v: %t", a, b, x, is, w, both)
				}
			}
		}
		if is && (!span.Leq(x, a) || !span.Leq(x, b)) {
			t.Fatalf("Meet(%v, %v) is %v", a, b, x)
		}
		if y, ok := span.Meet(b, a); y != x || ok != is {
			t.Fatalf("Meet(%v, %v) is %v", b, a, y)
		}
	}
}

// P10.4, and J2 of Leq: all words, in all sets with few values.
func TestLeqIsWithin(t *testing.T) {
	for i, a := range few() {
		for j, b := range few() {
			is := isWithin(a, b)
			if is && isWithin(b, a) && i != j && a != b {
				t.Fatalf("%v and %v have the same values", a, b)
			}
			if span.Leq(a, b) != is {
				t.Fatalf("Leq(%v, %v) is %t", a, b, !is)
			}
			for _, m := range [][2]int{{0, 1}, {1, 3}, {3, 3}, {1, 0}, {1, 2}, {7, 3}, {255, 127}} {
				if span.Leq(masked(a, m[0]), masked(b, m[1])) != (is && m[0]&^m[1] == 0) {
					t.Fatalf("Leq(%v, %v) with the masks %v", a, b, m)
				}
			}
		}
	}
}

// P10.4.
func TestLeqIsOrder(t *testing.T) {
	m := newMaker(8)
	for range 30000 {
		a := m.set()
		b := m.part(a)
		c := m.part(b)
		if !span.Leq(a, a) || !span.Leq(b, a) || !span.Leq(c, b) || !span.Leq(c, a) {
			t.Fatalf("%v, %v, %v", a, b, c)
		}
		if d := m.set(); span.Leq(a, d) && !span.Leq(c, d) || span.Leq(d, c) && !span.Leq(d, a) || span.Leq(a, d) && span.Leq(d, a) != (a == d) {
			t.Fatalf("%v, %v, %v", a, c, d)
		}
		if span.Leq(a, b) != (a == b) {
			t.Fatalf("Leq(%v, %v) is %t", a, b, a != b)
		}
		if !span.Leq(a, span.All(255)) || !span.Leq(c, span.In(api.Range{Lo: c.Lo, Hi: c.Hi, Mask: c.Mask})) {
			t.Fatalf("%v or %v is not within all values", a, c)
		}
	}
}

// P10.4: all pairs of sets with few values.
func TestOpKeepsOrder(t *testing.T) {
	l := between(-3, 2, 4)
	var pairs [][2]api.Abs
	for _, a := range l {
		for _, b := range l {
			if isWithin(a, b) {
				pairs = append(pairs, [2]api.Abs{a, b})
			}
		}
	}
	for _, op := range operators {
		for _, p := range pairs {
			for _, q := range pairs {
				checkOrder(t, op, p[0], p[1], q[0], q[1])
			}
		}
	}
}

// checkOrder checks Op for a within c and b within d.
func checkOrder(t *testing.T, op int, a, c, b, d api.Abs) {
	t.Helper()
	if (op == api.EDiv || op == api.EMod) && b.Lo == b.Hi {
		return
	}
	if x, y := span.Op(op, a, b), span.Op(op, c, d); !span.Leq(x, y) {
		t.Fatalf("Op(%d, %v, %v) is %v, Op of %v and %v only %v", op, a, b, x, c, d, y)
	}
}

// P10.4, also for any sets.
func TestOpKeepsOrderOfAny(t *testing.T) {
	m := newMaker(9)
	for range 100000 {
		c, d := m.set(), m.set()
		checkOrder(t, operators[m.r.Intn(len(operators))], m.part(c), c, m.part(d), d)
	}
	for range 2000 {
		c, d := m.set(), m.set()
		checkOrder(t, noOperators[m.r.Intn(len(noOperators))], m.part(c), c, m.part(d), d)
	}
}
