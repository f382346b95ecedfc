package fact_test

import (
	"testing"

	"parole/api"
	"parole/fact"
	"parole/gap"
	"parole/span"
)

// two facts of table, which differ in all that there is.
func two() (api.Fact, api.Fact) {
	a := changed(wide(masked(byStep(0, 12, 6), 1), between(3, 5)), func(f *api.Fact) {
		f.Refs, f.Arr = []api.Ref{owned(masked(one(7), 4)), either(between(-1, 3)), null}, []int{1, 6, 0}
		f.Must, f.May, f.Parts = 3, 7, 11
	})
	b := changed(wide(masked(byStep(4, 16, 4), 2), one(3)), func(f *api.Fact) {
		f.Gap[2], f.Gap[3] = []int{3, 5}, []int{-1, no}
		f.Refs, f.Arr = []api.Ref{either(masked(one(9), 1)), null, owned(one(-2))}, []int{3, 0, 0}
		f.Must, f.May, f.Parts = 10, 10, 25
	})
	return a, b
}

// P12.1, L2.
func TestJoinAndWiden(t *testing.T) {
	a, b := two()
	join := changed(a, func(f *api.Fact) {
		f.V[2], f.V[3] = masked(byStep(0, 16, 2), 3), between(3, 5)
		f.Gap[2], f.Gap[3] = []int{4, no}, []int{-1, no}
		f.Refs, f.Arr = []api.Ref{either(masked(byStep(7, 9, 2), 5)), either(between(-1, 3)), either(one(-2))}, []int{3, 6, 0}
		f.Must, f.May, f.Parts = 2, 15, 9
	})
	if j, k := fact.Join(a, b), fact.Join(b, a); !isSame(j, join) || !isSame(k, join) {
		t.Errorf("Join is %v, and %v", j, k)
	}
	// what b has beyond a
	if w := fact.Widen(a, b); !isSame(w, changed(join, func(f *api.Fact) {
		f.V[2] = masked(byStep(0, hi-1, 2), 3)
		f.Gap[3] = []int{no, no}
		f.Refs[0].A = masked(byStep(7, hi, 2), 5)
	})) {
		t.Errorf("Widen(a, b) is %v", w)
	}
	// and the other way round
	if w := fact.Widen(b, a); !isSame(w, changed(join, func(f *api.Fact) {
		f.V[2], f.V[3] = masked(byStep(lo, 16, 2), 3), byStep(3, hi, 1)
		f.Gap[2] = []int{no, no}
		f.Refs[0].A = masked(byStep(lo+1, 9, 2), 5)
	})) {
		t.Errorf("Widen(b, a) is %v", w)
	}
}

// P12.1, L2: the states of references, with the fields of those that have a record.
func TestJoinOfRefs(t *testing.T) {
	d, x, y := api.Def{Refs: 1}, between(0, 3), one(9)
	for i, c := range []struct{ a, b, join, widen api.Ref }{
		{null, null, null, null}, {null, owned(x), either(x), either(x)}, {owned(x), null, either(x), either(x)}, {either(x), null, either(x), either(x)}, {null, either(x), either(x), either(x)},
		{owned(x), owned(y), owned(between(0, 9)), owned(between(0, hi))}, {owned(y), owned(x), owned(between(0, 9)), owned(between(lo, 9))}, {owned(x), either(y), either(between(0, 9)), either(between(0, hi))}, {either(x), owned(y), either(between(0, 9)), either(between(0, hi))}, {either(x), either(y), either(between(0, 9)), either(between(0, hi))}, {owned(x), owned(x), owned(x), owned(x)},
		{null, owned(one(0)), either(one(0)), either(one(0))}, {owned(one(5)), null, either(one(5)), either(one(5))},
	} {
		a, b := api.Fact{Refs: []api.Ref{c.a}}, api.Fact{Refs: []api.Ref{c.b}}
		if j := fact.Join(a, b); len(j.Refs) != 1 || j.Refs[0] != c.join || !fact.Valid(d, j) {
			t.Errorf("case %d: Join is %v", i, j)
		}
		if w := fact.Widen(a, b); len(w.Refs) != 1 || w.Refs[0] != c.widen || !fact.Valid(d, w) {
			t.Errorf("case %d: Widen is %v", i, w)
		}
	}
}

// P12.1, L2.
func TestJoinWithDead(t *testing.T) {
	a, b := two()
	for _, f := range []api.Fact{a, b, tableFact(), {}, dead} {
		for i, g := range []api.Fact{fact.Join(f, dead), fact.Join(dead, f), fact.Widen(f, dead), fact.Widen(dead, f)} {
			if !isSame(g, f) {
				t.Errorf("case %d: %v, not %v", i, g, f)
			}
		}
		if !fact.Leq(dead, f) || fact.Leq(f, dead) != f.Dead {
			t.Errorf("Leq of %v", f)
		}
	}
}

// P12.1, L2: each single change of a fact makes it greater, or not.
func TestLeq(t *testing.T) {
	a, _ := two()
	for i, c := range []struct {
		above, below bool
		change       func(f *api.Fact)
	}{
		{true, true, func(f *api.Fact) {}},
		{true, false, func(f *api.Fact) { f.V[2].Mask = 3 }}, {true, false, func(f *api.Fact) { f.V[2].Hi = 18 }}, {false, true, func(f *api.Fact) { f.V[2].Mask = 0 }}, {false, true, func(f *api.Fact) { f.V[3] = one(3) }}, {false, true, func(f *api.Fact) { f.V[0] = one(8) }}, {false, false, func(f *api.Fact) { f.V[3] = between(2, 4) }}, {false, false, func(f *api.Fact) { f.V[2].Mask = 2 }}, {false, false, func(f *api.Fact) { f.V[2], f.V[3] = masked(one(0), 1), between(2, 5) }},
		{true, false, func(f *api.Fact) { f.Gap[2][0] = 5 }}, {true, false, func(f *api.Fact) { f.Gap[3][1] = no }}, {false, true, func(f *api.Fact) { f.Gap[2][0] = 3 }}, {false, true, func(f *api.Fact) { f.Gap[2][1] = far }}, {false, false, func(f *api.Fact) { f.Gap[2] = []int{5, 0} }},
		{true, false, func(f *api.Fact) { f.Refs[0].S = 3 }}, {false, true, func(f *api.Fact) { f.Refs[1].S = 2 }}, {false, true, func(f *api.Fact) { f.Refs[1] = null }}, {true, false, func(f *api.Fact) { f.Refs[2] = either(one(5)) }}, {false, false, func(f *api.Fact) { f.Refs[2] = owned(one(0)) }}, {false, false, func(f *api.Fact) { f.Refs[0] = null }}, {true, false, func(f *api.Fact) { f.Refs[0].A.Mask = 5 }}, {true, false, func(f *api.Fact) { f.Refs[1].A.Hi = 4 }}, {false, true, func(f *api.Fact) { f.Refs[1].A.Lo = 0 }}, {false, false, func(f *api.Fact) { f.Refs[0].A.Mask = 3 }}, {false, false, func(f *api.Fact) { f.Refs[1] = owned(between(-1, 4)) }},
		{true, false, func(f *api.Fact) { f.Arr[2] = 1 }}, {true, false, func(f *api.Fact) { f.Arr[1] = 7 }}, {false, true, func(f *api.Fact) { f.Arr[1] = 2 }}, {false, false, func(f *api.Fact) { f.Arr[0] = 2 }},
		{true, false, func(f *api.Fact) { f.May = 15 }}, {false, true, func(f *api.Fact) { f.May = 3 }}, {false, false, func(f *api.Fact) { f.May = 11 }}, {false, true, func(f *api.Fact) { f.Must = 7 }}, {true, false, func(f *api.Fact) { f.Must = 1 }}, {false, false, func(f *api.Fact) { f.Must = 5 }},
		{false, true, func(f *api.Fact) { f.Parts = 1<<15 + 11 }}, {true, false, func(f *api.Fact) { f.Parts = 3 }}, {true, false, func(f *api.Fact) { f.Parts = 0 }}, {false, false, func(f *api.Fact) { f.Parts = 7 }},
	} {
		b := changed(a, c.change)
		if fact.Leq(a, b) != c.above {
			t.Errorf("case %d: Leq(a, b) is %t", i, !c.above)
		}
		if fact.Leq(b, a) != c.below {
			t.Errorf("case %d: Leq(b, a) is %t", i, !c.below)
		}
	}
}

// above returns a fact that is greater than f, or not, in some of its numbers.
func (m maker) above(d api.Def, f api.Fact) api.Fact {
	if f.Dead {
		return m.any(d)
	}
	g := copyOf(f)
	some := func() bool { return m.r.Intn(3) == 0 }
	for v, a := range g.V {
		if some() {
			g.V[v] = span.Join(a, m.set())
		}
		for p, n := range g.Gap[v] {
			if some() {
				g.Gap[v][p] = max(n, m.bound(n))
			}
		}
	}
	for i, x := range g.Refs {
		if some() {
			g.Refs[i] = pick(m, api.Ref{S: 3, A: x.A}, api.Ref{S: x.S | 2, A: span.Join(x.A, m.set())}, x)
		}
	}
	for i := range g.Arr {
		g.Arr[i] |= m.mask()
	}
	g.May |= m.mask()
	g.Must &^= m.mask()
	g.Parts &^= 1 << m.r.Intn(20)
	return g
}

// P12.1, L2: facts that have much in common, and others.
func TestOrderAgainstModel(t *testing.T) {
	m, leq := newMaker(5), 0
	for range 30000 {
		d := m.def()
		a := m.any(d)
		for _, b := range []api.Fact{m.any(d), m.above(d, a), a} {
			if j := fact.Join(a, b); !isSame(j, modelMerge(a, b, span.Join, gap.Join)) {
				t.Fatalf("Join(%v, %v) is %v", a, b, j)
			}
			for _, p := range [][2]api.Fact{{a, b}, {b, a}} {
				if w := fact.Widen(p[0], p[1]); !isSame(w, modelMerge(p[0], p[1], span.Widen, gap.Widen)) {
					t.Fatalf("Widen(%v, %v) is %v", p[0], p[1], w)
				}
				is := modelLeq(p[0], p[1])
				if fact.Leq(p[0], p[1]) != is {
					t.Fatalf("Leq(%v, %v) is %t", p[0], p[1], !is)
				}
				if is && !isSame(a, b) {
					leq++
				}
			}
		}
	}
	if leq < 20000 {
		t.Errorf("only %d are at most others", leq)
	}
}

// P12.6.
func TestLeqIsOrder(t *testing.T) {
	m := newMaker(6)
	for range 30000 {
		d := m.def()
		a := m.any(d)
		b := m.above(d, a)
		c := m.above(d, b)
		if !fact.Leq(a, a) || fact.Leq(a, b) && fact.Leq(b, c) && !fact.Leq(a, c) || fact.Leq(a, b) && fact.Leq(b, a) != isSame(a, b) {
			t.Fatalf("%v, %v, %v", a, b, c)
		}
		if e := m.any(d); fact.Leq(e, a) && fact.Leq(a, b) && !fact.Leq(e, b) || fact.Leq(e, a) && fact.Leq(a, e) != isSame(a, e) {
			t.Fatalf("%v, %v, %v", a, b, e)
		}
	}
}

// P12.6.
func TestJoinAndWidenAreAtLeastBoth(t *testing.T) {
	m := newMaker(7)
	for range 30000 {
		d := m.def()
		a := m.any(d)
		for _, b := range []api.Fact{m.any(d), m.above(d, a)} {
			j := fact.Join(a, b)
			for _, f := range []api.Fact{j, fact.Widen(a, b), fact.Widen(b, a)} {
				if !fact.Leq(a, f) || !fact.Leq(b, f) || !fact.Leq(j, f) || !fact.Valid(d, f) {
					t.Fatalf("Join or Widen of %v and %v is %v", a, b, f)
				}
			}
			if c := m.above(d, a); fact.Leq(a, c) && fact.Leq(b, c) && !fact.Leq(j, c) {
				t.Fatalf("%v and %v are at most %v, Join is %v", a, b, c, j)
			}
		}
	}
}

// P12.6: greater facts have more words.
func TestGreaterFactsHaveMoreWords(t *testing.T) {
	m, more := newMaker(8), 0
	for range 30000 {
		d := m.def()
		w, x := m.words(d), m.words(d)
		a, b := m.fact(d, w), m.any(d)
		c := m.above(d, a)
		for i, f := range []api.Fact{fact.Join(a, b), fact.Join(b, a), fact.Widen(a, b), fact.Widen(b, a), fact.Drop(d, 0, a), fact.Drop(d, 1, a), fact.Drop(d, 2, a)} {
			if !fact.Has(d, f, w) {
				t.Fatalf("case %d: %v are within %v, but not within %v", i, w, a, f)
			}
		}
		for _, y := range [][]api.Word{w, x} {
			if fact.Leq(a, c) && fact.Has(d, a, y) && !fact.Has(d, c, y) {
				t.Fatalf("%v are within %v, but not within %v", y, a, c)
			}
			if fact.Has(d, c, y) != fact.Has(d, a, y) {
				more++
			}
		}
	}
	if more < 100 {
		t.Errorf("only %d greater facts have more of these words", more)
	}
}

// P12.6, and L2: a chain of widenings comes to its end.
func TestWideningEnds(t *testing.T) {
	m := newMaker(9)
	for range 300 {
		d := m.def()
		f, changes := m.fact(d, m.words(d)), 0
		for range 500 {
			g := fact.Widen(f, m.above(d, fact.Drop(d, 2, f)))
			if !isSame(f, g) {
				changes++
			}
			f = g
		}
		// 110 times each set, once each gap, and masks and states
		if most := 110*(d.Vars+d.Refs) + d.Vars*len(d.Params) + 2*d.Refs + 8*len(d.Arrays) + 32; changes > most {
			t.Fatalf("%d changes of %v", changes, d)
		}
		if g := fact.Widen(f, f); !isSame(f, g) {
			t.Fatalf("Widen(%v, the same) is %v", f, g)
		}
	}
}
