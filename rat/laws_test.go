package rat_test

import (
	"math/big"
	"slices"
	"testing"

	"parole/api"
	"parole/rat"
)

// A chain computes until an error comes up.
type chain struct{ e api.Errno }

func (c *chain) do(op operation, a, b api.Frac) api.Frac {
	if c.e != api.OK {
		return api.Frac{}
	}
	a, c.e = op(a, b)
	return a
}

// same fails unless both of them are equal, as far as both fit, and reports whether they do.
func same(t *testing.T, law string, left, right func(c *chain) api.Frac) bool {
	t.Helper()
	var c, d chain
	a, b := left(&c), right(&d)
	if c.e != api.OK || d.e != api.OK {
		return false
	}
	if a != b {
		t.Fatalf("%s: %v, %v", law, a, b)
	}
	return true
}

// P2.2.
func TestField(t *testing.T) {
	m := newMaker(10)
	laws, fits := 0, 0
	for range 4000 {
		bits := 1 + m.r.Intn(20)
		x, y, z := m.frac(bits), m.frac(bits), m.frac(bits)
		law := func(name string, left, right func(c *chain) api.Frac) {
			laws++
			if same(t, name, left, right) {
				fits++
			}
		}
		for _, op := range []operation{rat.Add, rat.Mul} {
			law("commutative", func(c *chain) api.Frac { return c.do(op, x, y) }, func(c *chain) api.Frac { return c.do(op, y, x) })
			law("associative", func(c *chain) api.Frac { return c.do(op, c.do(op, x, y), z) }, func(c *chain) api.Frac { return c.do(op, x, c.do(op, y, z)) })
		}
		law("distributive", func(c *chain) api.Frac { return c.do(rat.Mul, x, c.do(rat.Add, y, z)) }, func(c *chain) api.Frac { return c.do(rat.Add, c.do(rat.Mul, x, y), c.do(rat.Mul, x, z)) })
		law("Sub undoes Add", func(c *chain) api.Frac { return c.do(rat.Sub, c.do(rat.Add, x, y), y) }, func(c *chain) api.Frac { return x })
		law("Add undoes Sub", func(c *chain) api.Frac { return c.do(rat.Add, c.do(rat.Sub, x, y), y) }, func(c *chain) api.Frac { return x })
		law("Div undoes Mul", func(c *chain) api.Frac { return c.do(rat.Div, c.do(rat.Mul, x, y), y) }, func(c *chain) api.Frac { return x })
		law("Mul undoes Div", func(c *chain) api.Frac { return c.do(rat.Mul, c.do(rat.Div, x, y), y) }, func(c *chain) api.Frac { return x })
	}
	if fits < laws/2 {
		t.Errorf("only %d of %d fit", fits, laws)
	}
}

// P2.2: 0 and 1, at the limits, too.
func TestNeutral(t *testing.T) {
	for _, a := range validOf(edges) {
		for i, c := range []struct {
			op         operation
			a, b, want api.Frac
		}{
			{rat.Add, a, zero, a}, {rat.Add, zero, a, a}, {rat.Sub, a, zero, a}, {rat.Sub, a, a, zero}, {rat.Sub, zero, a, frac(-a.N, a.D)}, {rat.Mul, a, one, a}, {rat.Mul, one, a, a}, {rat.Mul, a, zero, zero}, {rat.Mul, a, frac(-1, 1), frac(-a.N, a.D)}, {rat.Div, a, one, a},
		} {
			if b, e := c.op(c.a, c.b); b != c.want || e != api.OK {
				t.Errorf("law %d of %v: %v, %d", i, a, b, e)
			}
		}
		if a == zero {
			continue
		}
		if b, e := rat.Div(a, a); b != one || e != api.OK {
			t.Errorf("%v by itself is %v, %d", a, b, e)
		}
		if b, e := rat.Div(zero, a); b != zero || e != api.OK {
			t.Errorf("0 by %v is %v, %d", a, b, e)
		}
	}
}

// P2.3.
func TestOrder(t *testing.T) {
	l := append(newMaker(11).fracs(40, 63), validOf([]int{1 - most, -most, -2, -1, 0, 1, 2, 3, most - 1, most})...)
	slices.SortFunc(l, rat.Cmp)
	for i, a := range l {
		for k, b := range l {
			c := rat.Cmp(a, b)
			if c != -rat.Cmp(b, a) || c == 0 != (a == b) {
				t.Fatalf("%v and %v: %d and %d", a, b, c, rat.Cmp(b, a))
			}
			if i < k && c > 0 || i > k && c < 0 {
				t.Fatalf("%v and %v are not in one order with the others", a, b)
			}
		}
	}
}

// P2.3: sums, and products with positive fractions, keep the order.
func TestOrderIsKept(t *testing.T) {
	m := newMaker(12)
	kept := 0
	for range 20000 {
		bits := 2 + m.r.Intn(30)
		a, b, by := m.frac(bits), m.frac(bits), m.frac(bits)
		for _, o := range operations[:3] {
			var c chain
			x, y := c.do(o.op, a, by), c.do(o.op, b, by)
			if c.e != api.OK {
				continue
			}
			kept++
			want := rat.Cmp(a, b)
			if o.name == "Mul" {
				want *= rat.Cmp(by, zero)
			}
			if rat.Cmp(x, y) != want {
				t.Fatalf("%s of %v and %v with %v: %d", o.name, a, b, by, rat.Cmp(x, y))
			}
		}
	}
	if kept < 20000 {
		t.Errorf("only %d fit", kept)
	}
}

// P2.4.
func TestLowestTerms(t *testing.T) {
	m := newMaker(13)
	check := func(name string, a api.Frac, e api.Errno) {
		if e == api.OK != valid(a) || e != api.OK && a != (api.Frac{}) {
			t.Fatalf("%s gives %v, %d", name, a, e)
		}
	}
	for range 20000 {
		bits := 1 + m.r.Intn(63)
		a, b := m.frac(bits), m.frac(bits)
		for _, o := range operations {
			c, e := o.op(a, b)
			check(o.name, c, e)
		}
		c, e := rat.New(m.number(), m.number())
		check("New", c, e)
		c, e = rat.Sum([]api.Frac{a, b, a})
		check("Sum", c, e)
		c, e = rat.Parse(rat.Text(a))
		check("Parse", c, e)
		check("Min", rat.Min(a, b), api.OK)
		check("Max", rat.Max(a, b), api.OK)
	}
}

// P2.4: what is equal as a number is the same fraction, however it came about.
func TestEqualNumbersAreEqual(t *testing.T) {
	m := newMaker(14)
	for range 20000 {
		n, d, k := m.r.Intn(1<<31)-1<<30, 1+m.r.Intn(1<<30), 1+m.r.Intn(1<<31)
		if m.r.Intn(2) == 0 {
			k = -k
		}
		a, e := rat.New(n, d)
		b, f := rat.New(n*k, d*k)
		if a != b || e != api.OK || f != api.OK || rat.Cmp(a, b) != 0 {
			t.Fatalf("%d / %d is %v and, multiplied by %d, %v", n, d, a, k, b)
		}
	}
}

// P2.5.
func TestSumInAnyOrder(t *testing.T) {
	m := newMaker(15)
	both := 0
	for range 3000 {
		l := m.fracs(2+m.r.Intn(7), 1+m.r.Intn(12))
		other := slices.Clone(l)
		m.r.Shuffle(len(l), func(i, k int) { other[i], other[k] = other[k], other[i] })
		a, e := rat.Sum(l)
		b, f := rat.Sum(other)
		if e != api.OK || f != api.OK {
			continue
		}
		both++
		if a != b {
			t.Fatalf("%v: %v, and %v: %v", l, a, other, b)
		}
	}
	if both < 1000 {
		t.Errorf("only %d fit", both)
	}
}

// P2.5: and not on where it is cut.
func TestSumOfSums(t *testing.T) {
	m := newMaker(16)
	for range 2000 {
		l := m.fracs(m.r.Intn(9), 5)
		k := m.r.Intn(len(l) + 1)
		same(t, "cut", func(c *chain) api.Frac { return c.sum(l) }, func(c *chain) api.Frac { return c.do(rat.Add, c.sum(l[:k]), c.sum(l[k:])) })
	}
}

func (c *chain) sum(l []api.Frac) api.Frac {
	a, e := rat.Sum(l)
	if c.e == api.OK {
		c.e = e
	}
	return a
}

// P2.7: numbers at both sides of the limits.
func TestLimits(t *testing.T) {
	l := validOf([]int{-most, 1 - most, 2 - most, -most / 2, -3, -2, -1, 0, 1, 2, 3, 1 << 31, 1<<31 + 1, most / 3, most / 2, most/2 + 1, most - 3, most - 2, most - 1, most})
	for _, a := range l {
		for _, b := range l {
			checkOperations(t, a, b)
		}
	}
}

// P2.7: one below, at, and one above the limit, of numerators and denominators.
func TestOneBeyondTheLimit(t *testing.T) {
	for _, c := range []struct {
		op   operation
		a, b api.Frac
		e    api.Errno
	}{
		{rat.Add, frac(most-1, 1), one, api.OK}, {rat.Add, frac(most, 1), one, api.ErrBig}, {rat.Add, frac(1-most, 1), frac(-1, 1), api.OK}, {rat.Add, frac(-most, 1), frac(-1, 1), api.ErrBig}, {rat.Add, frac(most, 1), frac(most, 1), api.ErrBig}, {rat.Add, frac(-most, 1), frac(-most, 1), api.ErrBig},
		{rat.Sub, frac(1-most, 1), one, api.OK}, {rat.Sub, frac(-most, 1), one, api.ErrBig}, {rat.Sub, frac(most-1, 1), frac(-1, 1), api.OK}, {rat.Sub, frac(most, 1), frac(-1, 1), api.ErrBig}, {rat.Sub, frac(most, 1), frac(-most, 1), api.ErrBig},
		{rat.Mul, frac(1<<31, 1), frac(1<<31, 1), api.OK}, {rat.Mul, frac(1<<31, 1), frac(1<<31+1, 1), api.ErrBig}, {rat.Mul, frac(1, 1<<31), frac(-1, 1<<31), api.OK}, {rat.Mul, frac(1, 1<<31), frac(1, 1<<31+1), api.ErrBig}, {rat.Mul, frac(most, 1), frac(most, 1), api.ErrBig}, {rat.Mul, frac(1, most), frac(1, most), api.ErrBig},
		{rat.Div, frac(most/2, 1), frac(1, 2), api.OK}, {rat.Div, frac(most/2+1, 1), frac(1, 2), api.ErrBig}, {rat.Div, frac(1, most/2), frac(2, 1), api.OK}, {rat.Div, frac(1, most/2+1), frac(2, 1), api.ErrBig},
		{rat.Add, frac(1, 1<<31), frac(1, 1<<31-1), api.OK}, {rat.Add, frac(1, 1<<31), frac(1, 1<<31+1), api.ErrBig}, {rat.Add, frac(1, most), frac(1, most), api.OK}, {rat.Add, frac(1, most), frac(1, 3), api.ErrBig}, {rat.Sub, frac(1, most), frac(1, most-1), api.ErrBig},
	} {
		if a, e := c.op(c.a, c.b); e != c.e || e != api.OK && a != (api.Frac{}) {
			t.Errorf("%v and %v: %v, %d", c.a, c.b, a, e)
		}
	}
}

// P2.7: whatever is greater on the way does not matter.
func TestGreaterOnTheWay(t *testing.T) {
	for _, a := range []api.Frac{frac(most-1, most), frac(1-most, most), frac(most, most-1), frac(-most, most-1), frac(most/3, most)} {
		inverse, _ := limited(new(big.Rat).Inv(exact(a)))
		for i, c := range []struct {
			op         operation
			a, b, want api.Frac
		}{{rat.Mul, a, inverse, one}, {rat.Div, a, a, one}, {rat.Sub, a, a, zero}, {rat.Add, a, frac(-a.N, a.D), zero}} {
			if b, e := c.op(c.a, c.b); b != c.want || e != api.OK {
				t.Errorf("%d of %v: %v, %d", i, a, b, e)
			}
		}
	}
}
