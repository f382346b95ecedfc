package fact_test

import (
	"slices"
	"testing"

	"parole/api"
	"parole/fact"
)

// P12.1, L1: both sides of each limit.
func TestValid(t *testing.T) {
	d := table()
	for i, c := range []struct {
		is     bool
		change func(f *api.Fact)
	}{
		{true, func(f *api.Fact) {}}, {false, func(f *api.Fact) { f.Dead = true }},
		{false, func(f *api.Fact) { f.V = nil }}, {false, func(f *api.Fact) { f.V = f.V[1:] }}, {false, func(f *api.Fact) { f.V = append(f.V, one(0)) }}, {false, func(f *api.Fact) { f.V[0] = api.Abs{} }}, {false, func(f *api.Fact) { f.V[3].M = 2 }}, {false, func(f *api.Fact) { f.V[1].Mask = 256 }}, {false, func(f *api.Fact) { f.V[0].Hi = hi + 1 }}, {true, func(f *api.Fact) { f.V[0] = masked(byStep(lo, hi, 3), 255) }},
		{false, func(f *api.Fact) { f.Gap = nil }}, {false, func(f *api.Fact) { f.Gap = f.Gap[1:] }}, {false, func(f *api.Fact) { f.Gap = append(f.Gap, f.Gap[0]) }}, {false, func(f *api.Fact) { f.Gap[3] = f.Gap[3][1:] }}, {false, func(f *api.Fact) { f.Gap[0] = []int{0, 0, 0} }}, {true, func(f *api.Fact) { f.Gap[2] = []int{far, -far} }}, {false, func(f *api.Fact) { f.Gap[2][1] = far + 1 }}, {false, func(f *api.Fact) { f.Gap[2][1] = -far - 1 }}, {false, func(f *api.Fact) { f.Gap[2][1] = no + 1 }},
		{false, func(f *api.Fact) { f.Refs = nil }}, {false, func(f *api.Fact) { f.Refs = f.Refs[1:] }}, {false, func(f *api.Fact) { f.Refs = append(f.Refs, null) }}, {false, func(f *api.Fact) { f.Refs[2].S = 0 }}, {false, func(f *api.Fact) { f.Refs[0].S = 0 }}, {false, func(f *api.Fact) { f.Refs[2].S = -1 }}, {false, func(f *api.Fact) { f.Refs[2].S = 4 }}, {false, func(f *api.Fact) { f.Refs[0].S = 6 }}, {false, func(f *api.Fact) { f.Refs[0].S = 1<<32 + 1 }},
		{true, func(f *api.Fact) { f.Refs[2].S = 2 }}, {true, func(f *api.Fact) { f.Refs[2].S = 3 }}, {true, func(f *api.Fact) { f.Refs[0].S = 3 }}, {false, func(f *api.Fact) { f.Refs[0].S = 1 }}, {false, func(f *api.Fact) { f.Refs[0].A.Mask = 256 }}, {false, func(f *api.Fact) { f.Refs[1].A.M = 0 }}, {false, func(f *api.Fact) { f.Refs[2].A = api.Abs{} }}, {false, func(f *api.Fact) { f.Refs[2].A = masked(one(0), 1) }}, {false, func(f *api.Fact) { f.Refs[2].A = one(1) }}, {false, func(f *api.Fact) { f.Refs[2].A = between(0, 1) }}, {false, func(f *api.Fact) { f.Refs[2] = either(api.Abs{}) }},
		{false, func(f *api.Fact) { f.Arr = nil }}, {false, func(f *api.Fact) { f.Arr = f.Arr[1:] }}, {false, func(f *api.Fact) { f.Arr = append(f.Arr, 0) }}, {true, func(f *api.Fact) { f.Arr = []int{255, 1, 0} }}, {false, func(f *api.Fact) { f.Arr[0] = 256 }}, {false, func(f *api.Fact) { f.Arr[2] = -1 }},
		{true, func(f *api.Fact) { f.May = 255 }}, {false, func(f *api.Fact) { f.May = 256 }}, {false, func(f *api.Fact) { f.May = -1 }}, {false, func(f *api.Fact) { f.Must, f.May = 256, 256 }}, {false, func(f *api.Fact) { f.Must, f.May = -1, -1 }}, {false, func(f *api.Fact) { f.Must, f.May = 256, 255 }},
		{false, func(f *api.Fact) { f.Must = 1 }}, {true, func(f *api.Fact) { f.Must, f.May = 255, 255 }}, {true, func(f *api.Fact) { f.Must, f.May = 128, 192 }}, {false, func(f *api.Fact) { f.Must, f.May = 192, 128 }}, {false, func(f *api.Fact) { f.Must, f.May = 4, 251 }},
		{true, func(f *api.Fact) { f.Parts = 0 }}, {true, func(f *api.Fact) { f.Parts = 1<<16 - 1 }}, {false, func(f *api.Fact) { f.Parts = 1 << 16 }}, {false, func(f *api.Fact) { f.Parts = -1 }},
	} {
		if f := changed(tableFact(), c.change); fact.Valid(d, f) != c.is {
			t.Errorf("case %d: %v is valid: %t", i, f, !c.is)
		}
	}
}

// P12.1, L1: a Dead fact has nothing else.
func TestValidDead(t *testing.T) {
	full := changed(tableFact(), func(f *api.Fact) { f.Parts = 0 })
	for _, d := range []api.Def{{}, table()} {
		if !fact.Valid(d, dead) || !fact.Valid(d, api.Fact{Dead: true, V: []api.Abs{}, Gap: [][]int{}, Refs: []api.Ref{}, Arr: []int{}}) {
			t.Error("a Dead fact is not valid")
		}
		for i, f := range []api.Fact{{V: []api.Abs{one(0)}}, {V: tableFact().V}, {Gap: [][]int{nil}}, {Gap: tableFact().Gap}, {Refs: []api.Ref{null}}, {Refs: tableFact().Refs}, {Arr: []int{0}}, {Arr: tableFact().Arr}, {May: 1}, {May: -1}, {Must: 1}, {Must: 1, May: 1}, {Parts: 1}, {Parts: 9}, {V: full.V, Gap: full.Gap}, {Refs: full.Refs, Arr: full.Arr}, {V: []api.Abs{one(0)}, Refs: []api.Ref{null}}, {V: []api.Abs{one(0)}, Arr: []int{0}}, full} {
			if f.Dead = true; fact.Valid(d, f) {
				t.Errorf("case %d: %v is valid", i, f)
			}
		}
	}
	if !fact.Valid(api.Def{}, api.Fact{}) || fact.Valid(table(), api.Fact{}) {
		t.Error("a fact with nothing")
	}
}

// damage changes one number of a fact, or a list of it.
func (m maker) damage(f *api.Fact) {
	change := func(n *int) { *n = pick(m, *n-1, *n+1, -*n, 0, -1, *n+256, *n+1<<32, m.value(), far, far+1, no) }
	switch n := m.r.Intn(10); {
	case n < 2 && len(f.V) > 0:
		a := &f.V[m.r.Intn(len(f.V))]
		change(pick(m, &a.Lo, &a.Hi, &a.M, &a.R, &a.Mask))
	case n < 4 && len(f.Gap) > 0 && len(f.Gap[0]) > 0:
		l := f.Gap[m.r.Intn(len(f.Gap))]
		change(&l[m.r.Intn(len(l))])
	case n < 6 && len(f.Refs) > 0:
		x := &f.Refs[m.r.Intn(len(f.Refs))]
		change(pick(m, &x.S, &x.S, &x.A.Lo, &x.A.Hi, &x.A.M, &x.A.R, &x.A.Mask))
	case n == 6 && len(f.Arr) > 0:
		change(&f.Arr[m.r.Intn(len(f.Arr))])
	case n == 7:
		pick(m, func() { f.V = append(f.V, one(0)) }, func() { f.Gap = append(f.Gap, nil) }, func() { f.Refs = append(f.Refs, null) }, func() { f.Arr = append(f.Arr, 0) }, func() { f.Dead = !f.Dead })()
	default:
		change(pick(m, &f.Must, &f.May, &f.Parts))
	}
}

// P12.1, L1: any facts.
func TestValidAgainstModel(t *testing.T) {
	m, valid := newMaker(3), 0
	for range 50000 {
		d := m.def()
		f := m.any(d)
		if !fact.Valid(d, f) {
			t.Fatalf("%v is not valid for %v", f, d)
		}
		m.damage(&f)
		is := modelValid(d, f)
		if fact.Valid(d, f) != is {
			t.Fatalf("%v is valid for %v: %t", f, d, !is)
		}
		if is {
			valid++
		}
		if e := m.def(); fact.Valid(e, f) != modelValid(e, f) {
			t.Fatalf("%v is valid for %v: %t", f, e, fact.Valid(e, f))
		}
	}
	if valid < 5000 || valid > 45000 {
		t.Errorf("%d are valid", valid)
	}
}

// P12.1, L1.
func TestHas(t *testing.T) {
	d, f := table(), wide(masked(byStep(-2, 10, 3), 5), one(6))
	within := []api.Word{{V: 8}, {V: -5, Mask: 2}, {V: 10, Mask: 4}, {V: 6}}
	if !fact.Has(d, f, within) || fact.Has(d, dead, within) || fact.Has(d, dead, nil) || fact.Has(api.Def{}, dead, nil) || !fact.Has(api.Def{}, api.Fact{}, nil) {
		t.Error(f)
	}
	for i, c := range []struct {
		v  int
		w  api.Word
		is bool
	}{
		{0, api.Word{V: 9}, false}, {0, api.Word{V: 8, Mask: 1}, false}, {1, api.Word{V: -6}, false}, {1, api.Word{V: 91}, false}, {1, api.Word{V: 90, Mask: 3}, false}, {1, api.Word{V: 90, Mask: 2}, true}, {1, api.Word{V: -5}, true},
		{2, api.Word{V: 9}, false}, {2, api.Word{V: 13}, false}, {2, api.Word{V: 7, Mask: 5}, true}, {2, api.Word{V: 7, Mask: 2}, false}, {2, api.Word{V: -2}, true}, {3, api.Word{V: 5}, false}, {3, api.Word{V: 7}, false}, {3, api.Word{V: 6, Mask: 128}, false},
		// the gaps: variable 2 is at most n + 4, and variable 3 at most n - 2
		{0, api.Word{V: 7}, false},
	} {
		w := slices.Clone(within)
		if w[c.v] = c.w; fact.Has(d, f, w) != c.is {
			t.Errorf("case %d: %v are within: %t", i, w, !c.is)
		}
	}
	for n := range 9 {
		for x := -2; x <= 10; x += 3 {
			w := []api.Word{{V: n}, {V: -5}, {V: x}, {V: 6}}
			if is := x <= n+4 && 6 <= n-2; fact.Has(d, f, w) != is {
				t.Errorf("%v are within: %t", w, !is)
			}
		}
	}
}

// P12.1, L1: words around which the facts are made, and others.
func TestHasAgainstModel(t *testing.T) {
	m, within := newMaker(4), 0
	for range 50000 {
		d := m.def()
		w := m.words(d)
		f := m.fact(d, w)
		if !fact.Has(d, f, w) {
			t.Fatalf("%v are not within %v", w, f)
		}
		for range 3 {
			x := slices.Clone(w)
			for range m.r.Intn(3) {
				if d.Vars > 0 {
					v := m.r.Intn(d.Vars)
					x[v] = pick(m, api.Word{V: m.value(), Mask: m.mask()}, api.Word{V: x[v].V, Mask: m.mask()}, api.Word{V: min(max(x[v].V+m.r.Intn(5)-2, lo), hi), Mask: x[v].Mask})
				}
			}
			is := modelHas(f, x)
			if fact.Has(d, f, x) != is {
				t.Fatalf("%v are within %v: %t", x, f, !is)
			}
			if is {
				within++
			}
		}
	}
	if within < 50000 || within > 140000 {
		t.Errorf("%d are within", within)
	}
}
