package rat_test

import (
	"math"
	"math/big"
	"math/rand"

	"parole/api"
	"parole/rat"
)

const most = 1 << 62

var zero = frac(0, 1)

var one = frac(1, 1)

// edges are the numbers at which fractions are most likely to go wrong.
var edges = []int{math.MinInt, math.MinInt + 1, -most - 1, -most, 1 - most, -most / 2, -1<<32 - 1, -1 << 32, -1 << 31, -12, -6, -5, -4, -3, -2, -1, 0, 1, 2, 3, 4, 5, 6, 9, 10, 12, 1<<31 - 1, 1 << 31, 1<<32 - 1, 1 << 32, 1<<32 + 1, most / 3, most / 2, most - 2, most - 1, most, most + 1, math.MaxInt - 1, math.MaxInt}

// notValid has every way in which a fraction is not valid.
var notValid = []api.Frac{{}, frac(1, 0), frac(-1, 0), frac(0, 2), frac(0, -1), frac(0, most), frac(1, -2), frac(-1, -1), frac(2, 4), frac(-6, 3), frac(most, most), frac(most, 2), frac(most+1, 1), frac(-most-1, 1), frac(1, most+1), frac(math.MinInt, 1), frac(math.MaxInt, 1), frac(1, math.MaxInt), frac(1, math.MinInt), frac(math.MinInt, math.MinInt), frac(0, math.MinInt), frac(math.MaxInt, math.MinInt)}

// operations are those of two fractions, each with the one of fractions without limits.
var operations = []struct {
	name  string
	op    operation
	exact func(z, a, b *big.Rat) *big.Rat
}{
	{"Add", rat.Add, (*big.Rat).Add}, {"Sub", rat.Sub, (*big.Rat).Sub}, {"Mul", rat.Mul, (*big.Rat).Mul}, {"Div", rat.Div, (*big.Rat).Quo},
}

type operation = func(a, b api.Frac) (api.Frac, api.Errno)

func frac(n, d int) api.Frac { return api.Frac{N: n, D: d} }

func exact(a api.Frac) *big.Rat { return big.NewRat(int64(a.N), int64(a.D)) }

// limited returns the valid fraction for a number.
func limited(r *big.Rat) (api.Frac, api.Errno) {
	n, d := r.Num(), r.Denom()
	if bound := big.NewInt(most); n.CmpAbs(bound) > 0 || d.Cmp(bound) > 0 {
		return api.Frac{}, api.ErrBig
	}
	return frac(int(n.Int64()), int(d.Int64())), api.OK
}

// valid is what chapter 2 says of valid fractions, word for word.
func valid(a api.Frac) bool {
	if a.D < 1 || a.D > most || a.N < -most || a.N > most {
		return false
	}
	n, d := big.NewInt(int64(a.N)), big.NewInt(int64(a.D))
	return n.GCD(nil, nil, n.Abs(n), d).Cmp(big.NewInt(1)) == 0
}

// validOf returns the valid fractions of two of the numbers.
func validOf(l []int) []api.Frac {
	var out []api.Frac
	for _, n := range l {
		for _, d := range l {
			if a := frac(n, d); valid(a) {
				out = append(out, a)
			}
		}
	}
	return out
}

// A maker makes the same fractions whenever the tests run.
type maker struct{ r *rand.Rand }

func newMaker(seed int64) maker { return maker{rand.New(rand.NewSource(seed))} }

// number is as often short as long.
func (m maker) number() int {
	switch m.r.Intn(4) {
	case 0:
		return edges[m.r.Intn(len(edges))]
	case 1:
		return m.r.Intn(25) - 12
	}
	return int(m.r.Uint64()) >> m.r.Intn(64)
}

// frac is of at most so many bits.
func (m maker) frac(bits int) api.Frac {
	for {
		k := 63 - m.r.Intn(bits)
		n, d := int(m.r.Uint64())>>k, int(m.r.Uint64())>>k
		if m.r.Intn(3) == 0 {
			n, d = m.number(), m.number()
		}
		if d == 0 {
			continue
		}
		if a, e := limited(big.NewRat(int64(n), int64(d))); e == api.OK && max(a.N, -a.N, a.D)>>bits == 0 {
			return a
		}
	}
}

func (m maker) fracs(n, bits int) []api.Frac {
	l := make([]api.Frac, n)
	for i := range l {
		l[i] = m.frac(bits)
	}
	return l
}
