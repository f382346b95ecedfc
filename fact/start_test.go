package fact_test

import (
	"slices"
	"testing"

	"parole/api"
	"parole/fact"
	"parole/shape"
)

// table has the parameters n (0 to 8) and m (-5 to 90), the variables 2 and 3, three references, the first two given, and arrays of 6 elements, of n, and of m.
func table() api.Def {
	return api.Def{
		Id: 1, Site: 9, Name: "f", Part: 3, Params: []api.Range{{Lo: 0, Hi: 8}, {Lo: -5, Hi: 90, Mask: 2}}, Vars: 4,
		Given: []api.Range{{Lo: 7, Hi: 7, Mask: 4}, {Lo: -1, Hi: hi}}, Refs: 3,
		Arrays: []api.Array{{Len: 6}, {Len: 8, Of: 1}, {Len: 64, Of: 2}}, Budget: 1,
	}
}

// tableFact is what is known of table at the beginning.
func tableFact() api.Fact {
	return api.Fact{
		V:    []api.Abs{between(0, 8), masked(between(-5, 90), 2), one(0), one(0)},
		Gap:  [][]int{{0, no}, {no, 0}, {no, no}, {no, no}},
		Refs: []api.Ref{owned(masked(one(7), 4)), owned(between(-1, hi)), null},
		Arr:  []int{0, 0, 0}, Parts: 9,
	}
}

// wide is tableFact, but with the sets x and y of the variables 2 and 3, and some gaps.
func wide(x, y api.Abs) api.Fact {
	return changed(tableFact(), func(f *api.Fact) {
		f.V[2], f.V[3] = x, y
		f.Gap[2], f.Gap[3] = []int{4, no}, []int{-2, 30}
	})
}

// P12.1, L1.
func TestStart(t *testing.T) {
	d := table()
	for _, level := range levels {
		if f := fact.Start(d, level); !isSame(f, tableFact()) {
			t.Errorf("level %d: %v", level, f)
		}
	}
	for part, parts := range map[int]int{0: 1, 1: 3, 2: 5, 15: 1<<15 + 1} {
		d.Part = part
		if f := fact.Start(d, 2); f.Parts != parts {
			t.Errorf("part %d: %d", part, f.Parts)
		}
	}
	if f := fact.Start(api.Def{}, 2); !isSame(f, api.Fact{Parts: 1}) {
		t.Error(f)
	}
}

// P12.1, L1: definitions of all sizes, which are right.
func TestStartAgainstModel(t *testing.T) {
	m := newMaker(1)
	for range 5000 {
		d := m.def()
		all := api.Decl{Parts: api.MaxParts, Firms: 1}
		if shape.Def(d, all) != api.OK {
			t.Fatalf("%v is not right", d)
		}
		level := pick(m, levels...)
		f := fact.Start(d, level)
		if !isSame(f, modelStart(d, level)) {
			t.Fatalf("Start(%v, %d) is %v", d, level, f)
		}
		if !fact.Valid(d, f) || !modelValid(d, f) {
			t.Fatalf("Start(%v, %d) is not valid: %v", d, level, f)
		}
	}
}

// P12.2.
func TestBeginnings(t *testing.T) {
	m := newMaker(2)
	for range 20000 {
		d := m.def()
		w := m.beginning(d)
		for _, level := range levels {
			if f := fact.Start(d, level); !fact.Has(d, f, w) {
				t.Fatalf("%v are not within Start(%v, %d), %v", w, d, level, f)
			}
		}
	}
}

// P12.1 and P12.2: words of parameters out of their ranges are not within Start, nor other variables that are not 0.
func TestOtherBeginnings(t *testing.T) {
	d := table()
	for level := range 3 {
		f := fact.Start(d, level)
		for _, w := range [][]api.Word{{{V: 0}, {V: -5}, {}, {}}, {{V: 8}, {V: 90, Mask: 2}, {}, {}}} {
			if !fact.Has(d, f, w) {
				t.Errorf("level %d: without %v", level, w)
			}
			for v := range w {
				for _, x := range []api.Word{{V: -6}, {V: 91}, {V: w[v].V, Mask: 1}, {V: w[v].V, Mask: 3}} {
					other := slices.Clone(w)
					if other[v] = x; fact.Has(d, f, other) {
						t.Errorf("level %d: with %v", level, other)
					}
				}
			}
		}
	}
}
