package fact_test

import (
	"testing"

	"parole/api"
	"parole/fact"
)

// P12.1, L3.
func TestDrop(t *testing.T) {
	d := table()
	f := changed(wide(masked(byStep(-2, 10, 3), 5), one(6)), func(f *api.Fact) {
		f.V[0], f.V[1] = byStep(0, 8, 8), masked(byStep(-5, 90, 5), 2)
		f.Gap[0], f.Gap[1] = []int{0, 3}, []int{no, 0}
		f.Refs[0], f.Refs[1] = either(masked(byStep(-7, 7, 2), 4)), owned(one(5))
		f.Arr, f.Must, f.May = []int{1, 2, 3}, 4, 6
	})
	one := changed(f, func(f *api.Fact) {
		f.Gap = [][]int{{0, no}, {no, 0}, {no, no}, {no, no}}
	})
	none := changed(one, func(f *api.Fact) {
		f.V[0], f.V[1], f.V[2] = between(0, 8), masked(between(-5, 90), 2), masked(between(-2, 10), 5)
		f.Refs[0] = either(masked(between(-7, 7), 4))
	})
	for _, level := range levels {
		want := []api.Fact{none, one, f}[max(0, min(level, 2))]
		if g := fact.Drop(d, level, f); !isSame(g, want) {
			t.Errorf("level %d: %v", level, g)
		}
		if g := fact.Drop(d, level, dead); !isSame(g, dead) {
			t.Errorf("level %d: %v", level, g)
		}
	}
}

// P12.1, L3: what is less than New in Gap becomes the 0 of it, and what is greater stays.
func TestDropOfOddGaps(t *testing.T) {
	d := api.Def{Params: []api.Range{{}, {}}, Vars: 2}
	f := api.Fact{V: []api.Abs{one(0), one(0)}, Gap: [][]int{{-3, 2}, {no, 5}}}
	for level := range 2 {
		if g := fact.Drop(d, level, f); !isSameGap(g.Gap, [][]int{{0, no}, {no, 5}}) {
			t.Errorf("level %d: %v", level, g)
		}
	}
}

// P12.1 and P12.6: less is known after Drop, the less the lower the level is.
func TestDropAgainstModel(t *testing.T) {
	m := newMaker(10)
	for range 30000 {
		d := m.def()
		f := m.any(d)
		level := pick(m, levels...)
		g := fact.Drop(d, level, f)
		if !isSame(g, modelDrop(d, level, f)) {
			t.Fatalf("Drop(%d, %v) is %v", level, f, g)
		}
		if !fact.Leq(f, g) || !fact.Valid(d, g) || !isSame(fact.Drop(d, level, g), g) {
			t.Fatalf("Drop(%d, %v) is %v", level, f, g)
		}
		if h := fact.Drop(d, level-m.r.Intn(2), f); level > -5 && !fact.Leq(g, h) {
			t.Fatalf("at most level %d, %v becomes %v", level, f, h)
		}
	}
}
