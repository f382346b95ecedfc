package rat_test

import (
	"math"
	"math/big"
	"slices"
	"testing"

	"parole/api"
	"parole/rat"
)

// P2.1, B1.
func TestValid(t *testing.T) {
	for _, a := range notValid {
		if rat.Valid(a) {
			t.Errorf("%v is valid", a)
		}
	}
	for _, n := range edges {
		for _, d := range edges {
			if a := frac(n, d); rat.Valid(a) != valid(a) {
				t.Errorf("%v is valid: %t", a, rat.Valid(a))
			}
		}
	}
	for n := -30; n <= 30; n++ {
		for d := -30; d <= 30; d++ {
			if a := frac(n, d); rat.Valid(a) != valid(a) {
				t.Errorf("%v is valid: %t", a, rat.Valid(a))
			}
		}
	}
}

// P2.1, B1.
func TestNew(t *testing.T) {
	for _, c := range []struct {
		n, d int
		want api.Frac
		e    api.Errno
	}{
		{6, -4, frac(-3, 2), api.OK}, {0, 5, zero, api.OK}, {0, -5, zero, api.OK}, {-6, -4, frac(3, 2), api.OK}, {-7, 7, frac(-1, 1), api.OK}, {12, 4, frac(3, 1), api.OK},
		{1, 0, api.Frac{}, api.ErrZero}, {0, 0, api.Frac{}, api.ErrZero}, {math.MinInt, 0, api.Frac{}, api.ErrZero}, {math.MaxInt, 0, api.Frac{}, api.ErrZero},
		{most, 1, frac(most, 1), api.OK}, {most + 1, 1, api.Frac{}, api.ErrBig}, {-most, 1, frac(-most, 1), api.OK}, {-most - 1, 1, api.Frac{}, api.ErrBig}, {most, -1, frac(-most, 1), api.OK}, {-most, -1, frac(most, 1), api.OK},
		{1, most, frac(1, most), api.OK}, {1, most + 1, api.Frac{}, api.ErrBig}, {1, -most, frac(-1, most), api.OK}, {1, -most - 1, api.Frac{}, api.ErrBig},
		{math.MinInt, 2, frac(-most, 1), api.OK}, {math.MinInt, -2, frac(most, 1), api.OK}, {2, math.MinInt, frac(-1, most), api.OK}, {-2, math.MinInt, frac(1, most), api.OK}, {math.MinInt, math.MinInt, one, api.OK}, {0, math.MinInt, zero, api.OK}, {math.MinInt, -1, api.Frac{}, api.ErrBig}, {1, math.MinInt, api.Frac{}, api.ErrBig}, {math.MaxInt, math.MaxInt, one, api.OK}, {math.MaxInt, math.MinInt, api.Frac{}, api.ErrBig},
	} {
		if a, e := rat.New(c.n, c.d); a != c.want || e != c.e {
			t.Errorf("New(%d, %d) is %v, %d", c.n, c.d, a, e)
		}
	}
}

// P2.1, B1: against fractions without limits.
func TestNewIsExact(t *testing.T) {
	m := newMaker(1)
	check := func(n, d int) {
		if d == 0 {
			return
		}
		want, f := limited(big.NewRat(int64(n), int64(d)))
		if a, e := rat.New(n, d); a != want || e != f {
			t.Fatalf("New(%d, %d) is %v, %d", n, d, a, e)
		}
	}
	for _, n := range edges {
		for _, d := range edges {
			check(n, d)
		}
	}
	for range 20000 {
		n, d := m.number(), m.number()
		check(n, d)
		k := 1 + m.r.Intn(1000)
		check(n>>12*k, d>>12*k)
	}
}

// P2.1, B2.
func TestOperations(t *testing.T) {
	for _, c := range []struct {
		op         operation
		a, b, want api.Frac
		e          api.Errno
	}{
		{rat.Add, frac(1, 6), frac(1, 10), frac(4, 15), api.OK}, {rat.Add, frac(1, 2), frac(-1, 2), zero, api.OK}, {rat.Add, zero, zero, zero, api.OK}, {rat.Add, frac(5, 6), frac(1, 6), one, api.OK}, {rat.Add, frac(1, 12), frac(1, 4), frac(1, 3), api.OK},
		{rat.Sub, frac(1, 3), frac(1, 2), frac(-1, 6), api.OK}, {rat.Sub, frac(-1, 3), frac(-1, 3), zero, api.OK}, {rat.Sub, zero, frac(most, 1), frac(-most, 1), api.OK}, {rat.Sub, frac(most, 1), frac(-1, 1), api.Frac{}, api.ErrBig},
		{rat.Mul, frac(2, 3), frac(-9, 4), frac(-3, 2), api.OK}, {rat.Mul, zero, frac(-9, 4), zero, api.OK}, {rat.Mul, frac(most, 1), zero, zero, api.OK}, {rat.Mul, frac(-most, 1), frac(-1, most), one, api.OK},
		{rat.Div, frac(3, 4), frac(-9, 2), frac(-1, 6), api.OK}, {rat.Div, zero, frac(-1, most), zero, api.OK}, {rat.Div, frac(-most, 1), frac(-most, 1), one, api.OK}, {rat.Div, one, frac(-1, most), frac(-most, 1), api.OK},
		{rat.Div, frac(3, 4), zero, api.Frac{}, api.ErrZero}, {rat.Div, zero, zero, api.Frac{}, api.ErrZero}, {rat.Div, frac(-most, 1), zero, api.Frac{}, api.ErrZero},
		{rat.Add, frac(most, 1), one, api.Frac{}, api.ErrBig}, {rat.Add, frac(most, 1), frac(-1, 3), api.Frac{}, api.ErrBig}, {rat.Mul, frac(most, 1), frac(1, most), one, api.OK},
	} {
		if a, e := c.op(c.a, c.b); a != c.want || e != c.e {
			t.Errorf("%v and %v: %v, %d, not %v, %d", c.a, c.b, a, e, c.want, c.e)
		}
	}
}

// checkOperations holds the four operations against fractions without limits.
func checkOperations(t *testing.T, a, b api.Frac) {
	t.Helper()
	for _, o := range operations {
		want, f := api.Frac{}, api.ErrZero
		if o.name != "Div" || b.N != 0 {
			want, f = limited(o.exact(new(big.Rat), exact(a), exact(b)))
		}
		if c, e := o.op(a, b); c != want || e != f {
			t.Fatalf("%s(%v, %v) is %v, %d, not %v, %d", o.name, a, b, c, e, want, f)
		}
	}
}

// P2.1, B2: against fractions without limits.
func TestOperationsAreExact(t *testing.T) {
	m := newMaker(2)
	for range 50000 {
		bits := 1 + m.r.Intn(63)
		checkOperations(t, m.frac(bits), m.frac(bits))
	}
}

// P2.1, B2: denominators that have much in common.
func TestSumsInLowestTerms(t *testing.T) {
	m := newMaker(3)
	for range 20000 {
		d := 1 + m.r.Intn(1<<30)
		a, e := rat.New(int(m.r.Uint64())>>1, d*(1+m.r.Intn(30)))
		b, f := rat.New(int(m.r.Uint64())>>1, d*(1+m.r.Intn(30)))
		if e != api.OK || f != api.OK {
			t.Fatal(e, f)
		}
		checkOperations(t, a, b)
	}
}

// P2.1, B3.
func TestCmp(t *testing.T) {
	m := newMaker(4)
	l := append(m.fracs(150, 63), validOf(edges)...)
	for _, a := range l {
		for _, b := range l {
			want := exact(a).Cmp(exact(b))
			if c := rat.Cmp(a, b); c != want {
				t.Fatalf("Cmp(%v, %v) is %d", a, b, c)
			}
			least, greatest := a, b
			if want > 0 {
				least, greatest = b, a
			}
			if c := rat.Min(a, b); c != least {
				t.Fatalf("Min(%v, %v) is %v", a, b, c)
			}
			if c := rat.Max(a, b); c != greatest {
				t.Fatalf("Max(%v, %v) is %v", a, b, c)
			}
		}
	}
}

// P2.1, B4.
func TestSum(t *testing.T) {
	for i, c := range []struct {
		l    []api.Frac
		want api.Frac
		e    api.Errno
	}{
		{nil, zero, api.OK}, {[]api.Frac{}, zero, api.OK}, {[]api.Frac{frac(-3, 2)}, frac(-3, 2), api.OK}, {[]api.Frac{frac(1, 2), frac(1, 3), frac(1, 6)}, one, api.OK}, {[]api.Frac{frac(most, 1), frac(-most, 1)}, zero, api.OK},
		{[]api.Frac{frac(most, 1), one}, api.Frac{}, api.ErrBig}, {[]api.Frac{frac(most, 1), one, frac(-1, 1)}, api.Frac{}, api.ErrBig}, {[]api.Frac{frac(most, 1), frac(-1, 1), one}, frac(most, 1), api.OK}, {[]api.Frac{frac(1, most), frac(1, 3), frac(-1, 3)}, api.Frac{}, api.ErrBig}, {[]api.Frac{one, frac(most, 1), frac(most, 1), zero}, api.Frac{}, api.ErrBig},
	} {
		if a, e := rat.Sum(c.l); a != c.want || e != c.e {
			t.Errorf("case %d: %v, %d", i, a, e)
		}
	}
}

// P2.1, B4: one after the other, against fractions without limits.
func TestSumIsExact(t *testing.T) {
	m := newMaker(5)
	beyond := 0
	for range 5000 {
		l := m.fracs(m.r.Intn(12), 1+m.r.Intn(40))
		want, f, sum := zero, api.OK, new(big.Rat)
		for _, a := range l {
			sum.Add(sum, exact(a))
			if want, f = limited(sum); f != api.OK {
				beyond++
				break
			}
		}
		if a, e := rat.Sum(l); a != want || e != f {
			t.Fatalf("the sum of %v is %v, %d, not %v, %d", l, a, e, want, f)
		}
	}
	if beyond < 500 || beyond > 4500 {
		t.Errorf("%d sums do not fit", beyond)
	}
}

// P2.1, B4: a long list.
func TestSumOfMany(t *testing.T) {
	l := slices.Repeat([]api.Frac{frac(1, 3), frac(-1, 6)}, 300000)
	if a, e := rat.Sum(l); a != frac(50000, 1) || e != api.OK {
		t.Error(a, e)
	}
}

// P2.1, B6.
func TestNothingIsModified(t *testing.T) {
	l := newMaker(6).fracs(20, 6)
	kept := slices.Clone(l)
	rat.Sum(l)
	if !slices.Equal(l, kept) {
		t.Errorf("%v became %v", kept, l)
	}
}

// P2.1: fractions that are not valid give what they give, but every call ends.
func TestNotValidFractions(t *testing.T) {
	l := append(slices.Clone(notValid), frac(math.MinInt, -1), frac(most, -most), frac(math.MaxInt, math.MaxInt), one, zero)
	for _, a := range l {
		rat.Text(a)
		for _, b := range l {
			for _, o := range operations {
				o.op(a, b)
			}
			rat.Cmp(a, b)
			rat.Min(a, b)
			rat.Max(a, b)
			rat.Sum([]api.Frac{a, b})
		}
	}
}
