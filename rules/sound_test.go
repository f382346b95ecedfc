package rules_test

import (
	"testing"

	"parole/api"
	"parole/num"
	"parole/rules"
)

// P13.1, M1.
func TestSound(t *testing.T) {
	for i, c := range []struct {
		r     api.Rule
		sound bool
	}{
		{rule(1, api.EMul, 0, 9, 0, 9, 0, 81), true}, {rule(1, api.EMul, 0, 9, 0, 9, 0, 80), false}, {rule(1, api.EMul, 0, 9, 0, 9, 1, 81), false}, {rule(1, api.EMul, 0, 9, 0, 9, -1, 82), true}, {rule(1, api.EMul, 0, 9, 0, 9, 81, 81), false}, {rule(1, api.EMul, 0, 9, 0, 9, 0, 0), false}, {rule(1, api.EMul, 9, 9, 9, 9, 81, 81), true},
		{rule(1, api.EAdd, -2, 2, 5, 6, 3, 8), true}, {rule(1, api.EAdd, -2, 2, 5, 6, 4, 8), false}, {rule(1, api.EAdd, -2, 2, 5, 6, 3, 7), false}, {rule(1, api.ESub, -2, 2, 5, 6, -8, -3), true}, {rule(1, api.ESub, 5, 6, -2, 2, 3, 8), true}, {rule(1, api.ESub, -2, 2, 5, 6, 3, 8), false},
		{rule(1, api.EMin, -2, 2, 1, 6, -2, 2), true}, {rule(1, api.EMin, -2, 2, 1, 6, -2, 1), false}, {rule(1, api.EMax, -2, 2, 1, 6, 1, 6), true}, {rule(1, api.EMax, -2, 2, 1, 6, 2, 6), false},
		// divisions by 0, and remainders that have the sign of the first operand
		{rule(1, api.EDiv, -3, 3, 0, 0, 0, 0), true}, {rule(1, api.EDiv, -3, 3, 0, 1, -3, 3), true}, {rule(1, api.EDiv, 8, 8, 2, 4, 2, 4), true}, {rule(1, api.EDiv, 8, 8, 2, 4, 3, 4), false}, {rule(1, api.EMod, 0, 9, 5, 5, 0, 4), true}, {rule(1, api.EMod, 0, 9, 5, 5, 0, 2), false}, {rule(1, api.EMod, -1, 9, 5, 5, 0, 4), false}, {rule(1, api.EMod, -9, 9, -5, -5, -4, 4), true}, {rule(1, api.EMod, -3, 3, 0, 0, -3, 3), true}, {rule(1, api.EMod, -3, 3, 0, 0, 0, 3), false},
		// results wrap around
		{rule(1, api.EAdd, hi, hi, 0, 1, lo, hi), true}, {rule(1, api.EAdd, hi, hi, 0, 1, 0, hi), false}, {rule(1, api.EAdd, hi, hi, 0, 1, lo, hi-1), false}, {rule(1, api.EAdd, hi, hi, 1, 2, lo, lo+1), true}, {rule(1, api.ESub, lo, lo, 1, 1, hi, hi), true}, {rule(1, api.EMul, 1<<16, 1<<16, 1<<16, 1<<16, 0, 0), true}, {rule(1, api.EDiv, lo, lo, -1, -1, lo, lo), true}, {rule(1, api.EDiv, lo, lo, -1, -1, 1, hi), false}, {rule(1, api.EMod, lo, lo, -1, -1, 0, 0), true},
		// 4096 pairs, of which one alone is outside: the first one, the last one, or another corner
		{rule(1, api.EAdd, 0, 63, 0, 63, 0, 126), true}, {rule(1, api.EAdd, 0, 63, 0, 63, 1, 126), false}, {rule(1, api.EAdd, 0, 63, 0, 63, 0, 125), false}, {rule(1, api.ESub, 0, 63, 0, 63, -62, 63), false}, {rule(1, api.ESub, 0, 63, 0, 63, -63, 62), false}, {rule(1, api.EMod, 7, 7, 1, 4096, 0, 7), true}, {rule(1, api.EMod, 4095, 4095, 1, 4096, 0, 4094), false}, {rule(1, api.EAdd, hi-4095, hi, 0, 0, hi-4095, hi), true}, {rule(1, api.EAdd, hi-4095, hi, 0, 0, hi-4095, hi-1), false}, {rule(1, api.EAdd, lo, lo+4095, 0, 0, lo+1, hi), false}, {rule(1, api.EMin, 0, 0, hi-4095, hi, 0, 0), true},
	} {
		if rules.Sound(c.r) != c.sound {
			t.Errorf("case %d: %v is sound: %t", i, c.r, !c.sound)
		}
	}
}

// P13.1, M1: rules that say exactly what their results are, more, and less.
func TestSoundAgainstResults(t *testing.T) {
	m := newMaker(2)
	for range 5000 {
		r := m.smallRule()
		wide := r
		wide.Lo, wide.Hi = max(lo, r.Lo-m.r.Intn(3)), min(hi, r.Hi+m.r.Intn(3))
		if !rules.Sound(r) || !rules.Sound(wide) {
			t.Fatalf("%v, or %v, is not sound", r, wide)
		}
		if r.Lo == r.Hi {
			continue
		}
		if x := with(r, fieldLo, r.Lo+1); rules.Sound(x) {
			t.Fatalf("%v is sound", x)
		}
		if x := with(r, fieldHi, r.Hi-1); rules.Sound(x) {
			t.Fatalf("%v is sound", x)
		}
	}
}

// P13.5: exactly the pairs whose results are outside show that a rule is not sound.
func TestWitnesses(t *testing.T) {
	m, unsound := newMaker(3), 0
	for range 3000 {
		r := m.smallRule()
		r.Lo, r.Hi = m.interval()
		witnesses := 0
		for a := r.ALo; a <= r.AHi; a++ {
			for b := r.BLo; b <= r.BHi; b++ {
				narrowed := r
				narrowed.ALo, narrowed.AHi, narrowed.BLo, narrowed.BHi = a, a, b, b
				v := num.Op(r.Op, a, b)
				outside := v < r.Lo || v > r.Hi
				if rules.Right(narrowed) != api.OK || rules.Sound(narrowed) == outside {
					t.Fatalf("%v is sound: %t", narrowed, outside)
				}
				if outside {
					witnesses++
				}
			}
		}
		if rules.Sound(r) != (witnesses == 0) {
			t.Fatalf("%v has %d witnesses, and is sound: %t", r, witnesses, witnesses > 0)
		}
		if witnesses > 0 {
			unsound++
		}
	}
	if unsound < 500 || unsound > 2500 {
		t.Errorf("%d are not sound", unsound)
	}
}

// P1: rules that are refused, for which the results are unspecified, come to an end.
func TestSoundOfOthers(t *testing.T) {
	for _, op := range append(noOperators, operators...) {
		for _, r := range []api.Rule{{}, {Op: op}, everywhere(1, op, lo, hi), everywhere(0, op, lo, hi), rule(1, op, lo, hi, 0, 0, lo, hi), rule(1, op, 5, 4, 5, 4, 0, 0), rule(1, op, -1<<63, 1<<63-1, -1<<63, 1<<63-1, -1<<63, 1<<63-1)} {
			rules.Sound(r)
		}
	}
}
