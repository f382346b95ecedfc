package num_test

import (
	"slices"
	"testing"

	"parole/api"
	"parole/num"
)

func add(a, b int) int { return num.Op(api.EAdd, a, b) }

func mul(a, b int) int { return num.Op(api.EMul, a, b) }

// P1.2.
func TestRing(t *testing.T) {
	for _, a := range edges {
		if add(a, 0) != a || mul(a, 1) != a || mul(a, 0) != 0 || add(a, mul(a, -1)) != 0 || num.Op(api.ESub, a, a) != 0 {
			t.Errorf("0, 1 and -1 with %d", a)
		}
		for _, b := range edges {
			if add(a, b) != add(b, a) || mul(a, b) != mul(b, a) {
				t.Errorf("order of %d and %d", a, b)
			}
			if num.Op(api.ESub, a, b) != add(a, mul(-1, b)) || add(num.Op(api.ESub, a, b), b) != a {
				t.Errorf("difference of %d and %d", a, b)
			}
			for _, c := range edges {
				if add(add(a, b), c) != add(a, add(b, c)) || mul(mul(a, b), c) != mul(a, mul(b, c)) || mul(a, add(b, c)) != add(mul(a, b), mul(a, c)) {
					t.Errorf("three of them: %d, %d, %d", a, b, c)
				}
			}
		}
	}
}

// P1.2: the integers modulo 2^32 are those that computers without signs have.
func TestRingModulo(t *testing.T) {
	m := newMaker(5)
	for range 5000 {
		a, b := int(m.r.Uint64()), int(m.r.Uint64())
		if uint32(add(a, b)) != uint32(a)+uint32(b) || uint32(mul(a, b)) != uint32(a)*uint32(b) {
			t.Fatalf("%d and %d: %d, %d", a, b, add(a, b), mul(a, b))
		}
	}
}

// P1.3.
func TestDivision(t *testing.T) {
	m := newMaker(6)
	pairs := [][2]int{}
	for _, a := range edges {
		for _, b := range edges {
			pairs = append(pairs, [2]int{a, b})
		}
	}
	for range 3000 {
		pairs = append(pairs, [2]int{m.value(), m.value()})
	}
	for _, p := range pairs {
		a, b := p[0], p[1]
		q, r := num.Op(api.EDiv, a, b), num.Op(api.EMod, a, b)
		if add(mul(b, q), r) != a {
			t.Errorf("%d is not %d times %d and %d", a, b, q, r)
		}
		if b == 0 {
			if q != 0 || r != a {
				t.Errorf("%d by 0: %d and %d", a, q, r)
			}
			continue
		}
		if r != 0 && (r < 0) != (a < 0) || max(r, -r) >= max(b, -b) {
			t.Errorf("%d by %d leaves %d", a, b, r)
		}
	}
}

func least(a, b int) int { return num.Op(api.EMin, a, b) }

func greatest(a, b int) int { return num.Op(api.EMax, a, b) }

func atMost(a, b int) bool {
	return num.Holds(compare(api.CLe, number(a), number(b)), nil, nil)
}

// P1.4.
func TestLattice(t *testing.T) {
	for _, a := range edges {
		if least(a, a) != a || greatest(a, a) != a {
			t.Errorf("%d with itself", a)
		}
		for _, b := range edges {
			if least(a, b) != least(b, a) || greatest(a, b) != greatest(b, a) {
				t.Errorf("order of %d and %d", a, b)
			}
			if least(a, greatest(a, b)) != a || greatest(a, least(a, b)) != a {
				t.Errorf("%d and %d do not absorb", a, b)
			}
			for _, c := range edges {
				if least(least(a, b), c) != least(a, least(b, c)) || greatest(greatest(a, b), c) != greatest(a, greatest(b, c)) {
					t.Errorf("three of them: %d, %d, %d", a, b, c)
				}
			}
		}
	}
}

// P1.4: CLe is the order of the lattice, and that of the integers.
func TestOrder(t *testing.T) {
	for _, a := range edges {
		for _, b := range edges {
			le := atMost(a, b)
			if le != (a <= b) || le != (least(a, b) == a) || le != (greatest(a, b) == b) {
				t.Errorf("%d at most %d: %t, %d, %d", a, b, le, least(a, b), greatest(a, b))
			}
		}
	}
}

// P1.5: the laws of logic.
func TestLogic(t *testing.T) {
	m := newMaker(7)
	always := api.Cond{Op: api.CTrue}
	for range 3000 {
		c, d, e := m.cond(4), m.cond(4), m.cond(4)
		vars, lens := m.values(6), m.values(6)
		for i, l := range [][2]api.Cond{
			{c, not(not(c))}, {c, and(c, c)}, {c, or(c, c)}, {c, and(c, always)}, {c, or(c, not(always))},
			{and(c, d), and(d, c)}, {or(c, d), or(d, c)}, {c, and(c, or(c, d))}, {c, or(c, and(c, d))},
			{not(and(c, d)), or(not(c), not(d))}, {not(or(c, d)), and(not(c), not(d))},
			{and(c, and(d, e)), and(and(c, d), e)}, {or(c, or(d, e)), or(or(c, d), e)},
			{and(c, or(d, e)), or(and(c, d), and(c, e))}, {or(c, and(d, e)), and(or(c, d), or(c, e))},
			{always, or(c, not(c))}, {not(always), and(c, not(c))}, {always, or(c, always)}, {not(always), and(c, not(always))},
		} {
			if num.Holds(l[0], vars, lens) != num.Holds(l[1], vars, lens) {
				t.Fatalf("law %d: %v, %v, %v", i, c, d, e)
			}
		}
	}
}

// P1.5: what is not less is at least as great.
func TestComparisons(t *testing.T) {
	for _, a := range edges {
		for _, b := range edges {
			x, y := number(a), number(b)
			less, greater, equal := compare(api.CLt, x, y), compare(api.CLt, y, x), compare(api.CEq, x, y)
			holds := func(c api.Cond) bool { return num.Holds(c, nil, nil) }
			if holds(not(less)) != holds(compare(api.CLe, y, x)) {
				t.Errorf("%d is not less than %d", a, b)
			}
			if holds(compare(api.CLe, x, y)) != holds(or(less, equal)) {
				t.Errorf("%d is at most %d", a, b)
			}
			n := 0
			for _, c := range []api.Cond{less, greater, equal} {
				if holds(c) {
					n++
				}
			}
			if n != 1 {
				t.Errorf("%d comparisons of %d and %d hold", n, a, b)
			}
		}
	}
}

// P1.6.
func TestReadsAreAll(t *testing.T) {
	m := newMaker(8)
	change := func(vars, reads []int) []int {
		other := slices.Clone(vars)
		for i := range other {
			if !slices.Contains(reads, i) {
				other[i] = m.value()
			}
		}
		return other
	}
	for range 5000 {
		e, c, vars, lens := m.expr(5), m.cond(5), m.values(8), m.values(8)
		if other := change(vars, num.Reads(e)); num.Eval(e, vars, lens) != num.Eval(e, other, lens) {
			t.Fatalf("the value of %v depends on more than %v", e, num.Reads(e))
		}
		if other := change(vars, num.ReadsC(c)); num.Holds(c, vars, lens) != num.Holds(c, other, lens) {
			t.Fatalf("whether %v holds depends on more than %v", c, num.ReadsC(c))
		}
	}
}

// P1.6: what is read is that of the operands.
func TestReadsOfOperands(t *testing.T) {
	m := newMaker(9)
	for range 1000 {
		a, b := m.expr(4), m.expr(4)
		want := append(num.Reads(a), num.Reads(b)...)
		slices.Sort(want)
		want = slices.Compact(want)
		for _, op := range operators {
			if l := num.Reads(expr(op, a, b)); !slices.Equal(l, want) {
				t.Fatalf("operator %d reads %v, not %v", op, l, want)
			}
		}
		for _, op := range []int{api.CLt, api.CLe, api.CEq} {
			if l := num.ReadsC(compare(op, a, b)); !slices.Equal(l, want) {
				t.Fatalf("comparison %d reads %v, not %v", op, l, want)
			}
		}
	}
}

// replace puts an expression in the place of a variable.
func replace(e api.Expr, n int, by api.Expr) api.Expr {
	if e.Op == api.EVar && e.N == n {
		return by
	}
	e.A = replaceAll(e.A, n, by)
	return e
}

func replaceAll(l []api.Expr, n int, by api.Expr) []api.Expr {
	l = slices.Clone(l)
	for i := range l {
		l[i] = replace(l[i], n, by)
	}
	return l
}

func replaceC(c api.Cond, n int, by api.Expr) api.Cond {
	c.A = replaceAll(c.A, n, by)
	c.C = slices.Clone(c.C)
	for i := range c.C {
		c.C[i] = replaceC(c.C[i], n, by)
	}
	return c
}

// P1.7.
func TestSubstitution(t *testing.T) {
	m := newMaker(10)
	for range 5000 {
		e, c, by := m.expr(5), m.cond(5), m.expr(3)
		vars, lens := m.values(6), m.values(3)
		n := m.r.Intn(len(vars))
		assigned := slices.Clone(vars)
		assigned[n] = num.Eval(by, vars, lens)
		if v, w := num.Eval(e, assigned, lens), num.Eval(replace(e, n, by), vars, lens); v != w {
			t.Fatalf("%v with variable %d as %v: %d and %d", e, n, by, v, w)
		}
		if num.Holds(c, assigned, lens) != num.Holds(replaceC(c, n, by), vars, lens) {
			t.Fatalf("%v with variable %d as %v", c, n, by)
		}
	}
}
