package rules_test

import (
	"math"
	"slices"
	"testing"

	"parole/api"
	"parole/digest"
	"parole/rules"
)

// P13.1, M2.
func TestOps(t *testing.T) {
	add, mul, again := rule(3, api.EAdd, 0, 1, 0, 1, 0, 2), rule(2, api.EMul, 0, 1, 0, 1, 0, 1), rule(1, api.EAdd, 0, 5, 0, 5, 0, 9)
	l := []api.Rule{add, mul, again, add, everywhere(9, api.EMax, lo, hi)}
	for op, want := range map[int][]api.Rule{api.EAdd: {add, again, add}, api.EMul: {mul}, api.EMax: l[4:], api.EMin: nil, api.EDiv: nil} {
		if own := rules.Ops(l, op); !slices.Equal(own, want) {
			t.Errorf("operator %d: %v", op, own)
		}
		if own := rules.Ops(nil, op); len(own) > 0 {
			t.Errorf("operator %d of none: %v", op, own)
		}
	}
	for _, op := range noOperators {
		if own := rules.Ops(l, op); len(own) > 0 {
			t.Errorf("operator %d: %v", op, own)
		}
	}
}

// P13.1, M2: all rules, whatever they are, belong to exactly one operator.
func TestOpsOfAnyRules(t *testing.T) {
	m := newMaker(4)
	odd := []api.Rule{{}, {Op: -1}, {Op: 11}, {Op: 1<<32 + api.EAdd}, {Op: api.EAdd, Id: -5}}
	for range 2000 {
		l := slices.Concat(m.anyRules(), m.soundRules(), odd[:m.r.Intn(len(odd)+1)])
		m.r.Shuffle(len(l), func(i, j int) { l[i], l[j] = l[j], l[i] })
		n := 0
		for _, op := range append(noOperators, operators...) {
			var want []api.Rule
			for _, r := range l {
				if r.Op == op {
					want = append(want, r)
				}
			}
			if own := rules.Ops(l, op); !slices.Equal(own, want) {
				t.Fatalf("Ops(%v, %d) is %v", l, op, own)
			}
			n += len(want)
		}
		if n != len(l) {
			t.Fatalf("%d of %v", n, l)
		}
	}
}

// P13.1, M2.
func TestDigest(t *testing.T) {
	first, second := api.Rule{Id: 1, Ver: 2, Firm: 3, Op: 4, ALo: 5, AHi: 6, BLo: 7, BHi: 8, Lo: 9, Hi: 10}, api.Rule{Id: -1, Op: math.MaxInt, ALo: math.MinInt, BLo: lo, Hi: hi + 1}
	words := []int{1, 2, 3, 4, 5, 6, 7, 8, 9, 10}
	more := []int{-1, 0, 0, math.MaxInt, math.MinInt, 0, lo, 0, 0, hi + 1}
	for i, c := range []struct {
		l     []api.Rule
		words []int
	}{
		{nil, nil}, {[]api.Rule{}, nil}, {[]api.Rule{first}, words}, {[]api.Rule{second}, more}, {[]api.Rule{first, second}, slices.Concat(words, more)}, {[]api.Rule{second, first}, slices.Concat(more, words)}, {[]api.Rule{first, first}, slices.Concat(words, words)}, {[]api.Rule{{}}, make([]int, 10)}, {make([]api.Rule, 100), make([]int, 1000)},
	} {
		if x := rules.Digest(c.l); x != digest.Words(c.words) {
			t.Errorf("case %d: %x", i, x)
		}
	}
}

// P13.6: rules that differ in one field have different digests, alone and among others.
func TestDigestTellsRulesApart(t *testing.T) {
	m := newMaker(5)
	for range 500 {
		r := pick(m, m.anyRule(), m.smallRule(), api.Rule{})
		ahead, behind := m.anyRules(), m.soundRules()
		x, y := rules.Digest([]api.Rule{r}), rules.Digest(slices.Concat(ahead, []api.Rule{r}, behind))
		for f := range numFields {
			n := *fields(&r)[f]
			for _, v := range []int{n + 1, n - 1, -n, 0, n + 1<<32, n ^ math.MinInt, m.value()} {
				if v == n {
					continue
				}
				other := with(r, f, v)
				if rules.Digest([]api.Rule{other}) == x || rules.Digest(slices.Concat(ahead, []api.Rule{other}, behind)) == y {
					t.Fatalf("%v and %v have one digest", r, other)
				}
			}
		}
	}
}
