package span_test

import (
	"math/big"
	"testing"

	"parole/api"
	"parole/num"
	"parole/span"
)

// P10.1, J3.
func TestOp(t *testing.T) {
	all := set(lo, hi, 1)
	for _, c := range []struct {
		op         int
		a, b, want api.Abs
	}{
		{api.EAdd, one(hi), one(1), one(lo)}, {api.ESub, one(lo), one(1), one(hi)}, {api.EMul, one(1 << 16), one(1 << 16), one(0)}, {api.EDiv, one(lo), one(-1), one(lo)}, {api.EDiv, one(7), one(0), one(0)}, {api.EMod, one(-7), one(2), one(-1)}, {api.EMod, one(7), one(0), one(7)}, {api.EMin, one(-3), one(2), one(-3)}, {api.EMax, one(-3), one(2), one(2)},
		{api.EAdd, set(0, 8, 4), set(1, 5, 2), set(1, 13, 2)}, {api.EAdd, one(hi), set(1, 3, 2), set(lo, hi-1, 2)}, {api.EAdd, set(0, 9, 3), one(-4), set(-4, 5, 3)}, {api.EAdd, one(5), set(0, 8, 4), set(5, 13, 4)}, {api.EAdd, set(hi-6, hi, 6), one(0), set(hi-6, hi, 6)}, {api.EAdd, set(hi-6, hi, 6), one(1), set(lo, hi-1, 2)}, {api.EAdd, set(lo, lo+6, 6), one(-1), set(lo+1, hi, 2)}, {api.EAdd, set(lo+1, lo+7, 6), one(-1), set(lo, lo+6, 6)}, {api.EAdd, one(lo), set(lo, lo+8, 4), set(lo, hi-3, 4)}, {api.EAdd, set(lo, 0, 1<<31), set(lo, 0, 1<<31), set(lo, 0, 1<<31)}, {api.EAdd, set(hi-3, hi, 3), set(hi-5, hi, 5), all},
		{api.ESub, set(0, 8, 4), set(1, 7, 6), set(-7, 7, 2)}, {api.ESub, one(0), set(0, 9, 3), set(-9, 0, 3)}, {api.ESub, set(lo, lo+6, 3), one(1), all}, {api.ESub, one(0), set(lo, lo+4, 4), set(lo, hi-3, 4)}, {api.ESub, one(-1), set(lo, lo+4, 4), set(hi-4, hi, 4)}, {api.ESub, set(lo, 0, 1<<31), one(1), set(-1, hi, 1<<31)},
		{api.EMul, set(1, 7, 3), one(-4), set(-28, -4, 12)}, {api.EMul, set(2, 6, 4), set(3, 6, 3), set(6, 36, 6)}, {api.EMul, set(-2, 3, 1), set(-5, 7, 1), set(-15, 21, 1)}, {api.EMul, set(-6, -2, 4), set(-9, -3, 6), set(6, 54, 12)}, {api.EMul, one(0), set(1, 5, 2), one(0)}, {api.EMul, set(1, 5, 1), one(0), one(0)}, {api.EMul, set(0, 1<<20, 1<<10), one(1 << 12), set(lo, hi-(1<<22-1), 1<<22)}, {api.EMul, set(0, 1<<30, 1<<30), one(4), one(0)}, {api.EMul, set(1, 1<<30+1, 1<<30), one(4), one(4)}, {api.EMul, set(0, 1<<30, 1<<30), one(2), set(lo, 0, 1<<31)}, {api.EMul, set(0, 1<<30, 1<<30), one(-2), set(lo, 0, 1<<31)}, {api.EMul, set(-1, 1<<30-1, 1<<30), one(-4), one(4)}, {api.EMul, set(lo, hi, 1<<32-1), set(lo, hi, 1<<32-1), all}, {api.EMul, set(lo, 0, 1<<31), set(lo, 0, 1<<31), one(0)}, {api.EMul, set(0, 3*1<<30-1<<31, 1<<30), one(6), set(lo, 0, 1<<31)},
		{api.EDiv, set(-7, 9, 1), one(2), set(-3, 4, 1)}, {api.EDiv, set(-7, 9, 4), one(-2), set(-4, 3, 1)}, {api.EDiv, set(0, 8, 8), one(4), set(0, 2, 1)}, {api.EDiv, set(-3, 3, 2), one(4), one(0)}, {api.EDiv, set(8, 11, 1), one(4), one(2)}, {api.EDiv, set(lo, 0, 1), one(-1), all}, {api.EDiv, set(lo+1, 0, 1), one(-1), set(0, hi, 1)}, {api.EDiv, set(lo, 0, 1), one(1), set(lo, 0, 1)}, {api.EDiv, set(lo, hi, 1), one(lo), set(0, 1, 1)},
		{api.EDiv, set(3, 9, 3), set(0, 4, 1), set(0, 9, 1)}, {api.EDiv, set(3, 9, 3), one(0), set(0, 9, 1)}, {api.EDiv, set(-3, 2, 1), one(0), set(-3, 3, 1)}, {api.EDiv, set(-3, 2, 1), set(0, 4, 1), set(-3, 3, 1)}, {api.EDiv, set(3, 9, 1), set(-1, 4, 1), set(-9, 9, 1)}, {api.EDiv, one(0), set(-1, 4, 1), one(0)}, {api.EDiv, one(0), set(0, 4, 1), one(0)}, {api.EDiv, one(5), set(3, 4, 1), set(0, 5, 1)}, {api.EDiv, one(-5), set(3, 4, 1), set(-5, 5, 1)}, {api.EDiv, set(lo, 0, 1), set(1, 2, 1), all}, {api.EDiv, set(lo+1, 0, 1), set(1, 2, 1), set(lo+1, hi, 1)}, {api.EDiv, set(lo, 0, 1), one(0), all}, {api.EDiv, set(0, hi, 1), set(0, hi, 1), set(0, hi, 1)}, {api.EDiv, one(lo), set(5, 6, 1), all},
		{api.EMod, set(0, 9, 1), one(4), set(0, 3, 1)}, {api.EMod, set(0, 8, 4), one(4), one(0)}, {api.EMod, set(1, 21, 4), one(-6), set(1, 5, 2)}, {api.EMod, set(-9, 9, 3), one(6), set(-3, 3, 3)}, {api.EMod, set(-9, -3, 1), one(4), set(-3, 0, 1)}, {api.EMod, set(-9, -3, 3), one(21), set(-9, 0, 3)}, {api.EMod, set(-9, -3, 3), one(20), set(-9, 0, 1)}, {api.EMod, set(-2, 9, 1), one(4), set(-2, 3, 1)}, {api.EMod, set(-9, 2, 1), one(4), set(-3, 2, 1)}, {api.EMod, set(-9, 7, 4), one(6), set(-5, 5, 2)}, {api.EMod, set(1, 3, 1), one(4), set(1, 3, 1)}, {api.EMod, set(1, 3, 2), one(-4), set(1, 3, 2)}, {api.EMod, set(1, 3, 2), one(3), set(0, 2, 1)}, {api.EMod, set(1, 3, 2), one(-3), set(0, 2, 1)}, {api.EMod, set(-5, 7, 4), one(0), set(-5, 7, 4)}, {api.EMod, set(-5, 7, 4), one(1), one(0)}, {api.EMod, set(-5, 7, 4), one(-1), one(0)}, {api.EMod, set(lo, hi, 1), one(lo), set(lo+1, hi, 1)}, {api.EMod, set(0, hi, 1), one(lo), set(0, hi, 1)}, {api.EMod, set(lo, 0, 1<<31), one(lo), one(0)},
		{api.EMod, set(2, 7, 5), set(1, 3, 1), set(0, 7, 1)}, {api.EMod, set(-7, -2, 5), set(1, 3, 1), set(-7, 0, 1)}, {api.EMod, set(-7, 3, 5), set(1, 3, 1), set(-7, 3, 1)}, {api.EMod, one(5), set(7, 9, 1), set(0, 5, 1)}, {api.EMod, one(0), set(7, 9, 1), one(0)}, {api.EMod, one(lo), set(7, 9, 1), set(lo, 0, 1)},
		{api.EMin, set(0, 9, 3), set(1, 7, 6), set(0, 7, 1)}, {api.EMin, set(0, 9, 3), set(6, 12, 6), set(0, 9, 3)}, {api.EMin, set(0, 12, 6), one(3), set(0, 3, 3)}, {api.EMin, set(0, 12, 6), one(-4), one(-4)}, {api.EMin, set(lo, hi, 1<<32-1), one(hi), set(lo, hi, 1<<32-1)}, {api.EMax, set(0, 9, 3), set(3, 15, 6), set(3, 15, 3)}, {api.EMax, set(0, 12, 6), one(3), set(3, 12, 3)}, {api.EMax, set(0, 12, 6), one(-4), set(0, 12, 2)}, {api.EMax, set(lo, hi, 1<<32-1), one(hi), one(hi)},
	} {
		for _, m := range [][2]int{{0, 0}, {1, 4}, {3, 1}, {1, 255}} {
			a, b, want := masked(c.a, m[0]), masked(c.b, m[1]), masked(c.want, m[0]|m[1])
			if x := span.Op(c.op, a, b); x != want {
				t.Errorf("Op(%d, %v, %v) is %v, not %v", c.op, a, b, x, want)
			}
		}
	}
}

// P10.1, J3: operators that there are not.
func TestOpOfNoOperator(t *testing.T) {
	for _, op := range noOperators {
		for _, a := range few() {
			if x := span.Op(op, masked(a, 1), masked(set(-4, 8, 6), 6)); x != masked(one(0), 7) {
				t.Fatalf("Op(%d, %v, ..) is %v", op, a, x)
			}
		}
		if x := span.Op(op, masked(one(3), 1), masked(one(4), 2)); x != masked(one(0), 3) {
			t.Errorf("Op(%d, 3, 4) is %v", op, x)
		}
	}
}

// P10.1, J3: sums, differences and products that do not wrap have no values that are in no lesser set.
func TestOpIsLeast(t *testing.T) {
	l := append(between(-4, 1, 6), between(-21, 7, 5)...)
	l = append(l, between(-1<<14, 1<<12, 5)...)
	for _, op := range []int{api.EAdd, api.ESub, api.EMul} {
		for _, a := range l {
			for _, b := range l {
				var results []int
				for _, v := range valuesOf(a) {
					for _, w := range valuesOf(b) {
						results = append(results, num.Op(op, v, w))
					}
				}
				if x := span.Op(op, a, b); x != hull(results) {
					t.Fatalf("Op(%d, %v, %v) is %v, not %v", op, a, b, x, hull(results))
				}
			}
		}
	}
}

// byStep is 'from first to last by m'.
func byStep(first, last, m int) api.Abs {
	if m == 0 || last-first < m {
		return one(first)
	}
	return set(first, first+(last-first)/m*m, m)
}

// everythingLike is 'everything like r by m'.
func everythingLike(r, m int) api.Abs {
	if m == 1<<32 {
		return one(num.Wrap(r))
	}
	first := lo + ((r%m)+m)%m // m divides lo
	return set(first, first+1<<32-m, m)
}

// wrapped is 'from first to last by m', unless one of both is no value.
func wrapped(first, last int, m *big.Int) api.Abs {
	if first >= lo && last <= hi {
		return byStep(first, last, int(m.Int64()))
	}
	power := 1
	for power < 1<<32 && new(big.Int).Mod(m, whole(2*power)).Sign() == 0 {
		power *= 2
	}
	return everythingLike(first, power)
}

// modelMod is what J3 says of EMod by one value.
func modelMod(a api.Abs, k int) api.Abs {
	n := max(k, -k)
	if k == 0 || a.Lo >= 0 && a.Hi < n {
		return masked(a, 0)
	}
	g := int(gcd(whole(stepOf(a)), whole(n)).Int64())
	first, last := a.Lo%g, 0 // the least one of the class that is not negative
	if a.Lo < 0 {
		bound := max(a.Lo, 1-n)
		first = a.Lo + (bound-a.Lo+g-1)/g*g
	}
	if a.Hi > 0 {
		last = min(a.Hi, n-1)
	}
	return byStep(first, last, g)
}

// modelDiv is what J3 says of EDiv.
func modelDiv(a, b api.Abs) api.Abs {
	if k := b.Lo; stepOf(b) == 0 && k != 0 {
		return wrapped(min(a.Lo/k, a.Hi/k), max(a.Lo/k, a.Hi/k), whole(1))
	}
	if a.Lo >= 0 && b.Lo >= 0 {
		return byStep(0, a.Hi, 1)
	}
	m := max(a.Lo, -a.Lo, a.Hi, -a.Hi)
	if m == 1<<31 {
		return set(lo, hi, 1)
	}
	return byStep(-m, m, 1)
}

// modelOp is what J3 says, without limits for numbers, and without masks.
func modelOp(op int, a, b api.Abs) api.Abs {
	s, t := stepOf(a), stepOf(b)
	g := gcd(whole(s), whole(t))
	switch {
	case s == 0 && t == 0:
		return one(num.Op(op, a.Lo, b.Lo))
	case op == api.EAdd:
		return wrapped(a.Lo+b.Lo, a.Hi+b.Hi, g)
	case op == api.ESub:
		return wrapped(a.Lo-b.Hi, a.Hi-b.Lo, g)
	case op == api.EMul:
		p := hull([]int{a.Lo * b.Lo, a.Lo * b.Hi, a.Hi * b.Lo, a.Hi * b.Hi})
		return wrapped(p.Lo, p.Hi, gcd(times(a.Lo, t), times(b.Lo, s), times(s, t)))
	case op == api.EDiv:
		return modelDiv(a, b)
	case op == api.EMod && t == 0:
		return modelMod(a, b.Lo)
	case op == api.EMod:
		return byStep(min(a.Lo, 0), max(a.Hi, 0), 1)
	case op == api.EMin:
		return byStep(min(a.Lo, b.Lo), min(a.Hi, b.Hi), int(gcd(g, whole(a.Lo-b.Lo)).Int64()))
	}
	return byStep(max(a.Lo, b.Lo), max(a.Hi, b.Hi), int(gcd(g, whole(a.Lo-b.Lo)).Int64()))
}

// P10.1, J3: against the chapter's words.
func TestOpAgainstModel(t *testing.T) {
	check := func(op int, a, b api.Abs) {
		want := masked(modelOp(op, a, b), a.Mask|b.Mask)
		if x := span.Op(op, a, b); x != want {
			t.Fatalf("Op(%d, %v, %v) is %v, not %v", op, a, b, x, want)
		}
	}
	sets := append(few(), wide()...)
	for _, op := range operators {
		for i, a := range sets {
			for j := i % 7; j < len(sets); j += 7 {
				check(op, a, sets[j])
			}
		}
	}
	m := newMaker(2)
	for range 200000 {
		check(operators[m.r.Intn(len(operators))], m.set(), m.set())
	}
}
