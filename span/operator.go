package span

import "parole/api"

// operands are two sets, of which at least one has several values, with their steps.
type operands struct {
	a, b api.Abs
	s, t int
}

func (x operands) areSingle() bool { return x.s == 0 && x.t == 0 }

// operator returns what an operator does, but for the mask, and whether there is such an operator.
func operator(op int) (func(operands) api.Abs, bool) {
	does := [...]func(operands) api.Abs{
		api.EAdd: operands.sum,
		api.ESub: operands.difference,
		api.EMul: operands.product,
		api.EDiv: operands.quotient,
		api.EMod: operands.remainder,
		api.EMin: operands.least,
		api.EMax: operands.greatest,
	}
	if op < api.EAdd || op >= len(does) {
		return nil, false
	}
	return does[op], true
}

func (x operands) sum() api.Abs {
	return wrapped(x.a.Lo+x.b.Lo, x.a.Hi+x.b.Hi, divisor(x.s, x.t))
}

func (x operands) difference() api.Abs {
	return wrapped(x.a.Lo-x.b.Hi, x.a.Hi-x.b.Lo, divisor(x.s, x.t))
}

// product takes the greatest divisor of a.Lo t and s t as t times that of a.Lo and s, since s t may have 64 bits.
func (x operands) product() api.Abs {
	a, b := x.a, x.b
	p, q, u, v := a.Lo*b.Lo, a.Lo*b.Hi, a.Hi*b.Lo, a.Hi*b.Hi
	return wrapped(min(p, q, u, v), max(p, q, u, v), divisor(x.t*divisor(a.Lo, x.s), b.Lo*x.s))
}

func (x operands) quotient() api.Abs {
	a, k := x.a, x.b.Lo
	switch {
	case x.t == 0 && k != 0:
		return wrapped(min(a.Lo/k, a.Hi/k), max(a.Lo/k, a.Hi/k), 1)
	case a.Lo >= 0 && k >= 0:
		return wrapped(0, a.Hi, 1)
	}
	m := max(size(a.Lo), size(a.Hi))
	return wrapped(-m, m, 1)
}

func (x operands) remainder() api.Abs {
	a, n := x.a, size(x.b.Lo)
	switch {
	case x.t != 0:
		return wrapped(min(a.Lo, 0), max(a.Hi, 0), 1)
	case n == 0 || a.Lo >= 0 && a.Hi < n:
		return a
	}
	lo, hi := min(max(a.Lo, 1-n), 0), max(min(a.Hi, n-1), 0)
	r, _ := class{a.Lo, divisor(x.s, n)}.within(lo, hi)
	return r
}

func (x operands) least() api.Abs {
	return wrapped(min(x.a.Lo, x.b.Lo), min(x.a.Hi, x.b.Hi), x.between())
}

func (x operands) greatest() api.Abs {
	return wrapped(max(x.a.Lo, x.b.Lo), max(x.a.Hi, x.b.Hi), x.between())
}

// between returns the step of all values of both sets together.
func (x operands) between() int { return divisor(x.s, x.t, x.a.Lo-x.b.Lo) }

// wrapped returns the set from lo to hi by m. If not all of these are values, only a power of 2 is left of m, as they wrap around.
func wrapped(lo, hi, m int) api.Abs {
	c := class{lo, m}
	if lo < api.MinInt || hi > api.MaxInt {
		c.m = min(m&-m, far)
		lo, hi = api.MinInt, api.MaxInt
	}
	r, _ := c.within(lo, hi)
	return r
}
