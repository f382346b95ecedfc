package rat

import "parole/api"

const limit = 1 << 62

// gcd returns the greatest number that divides all of them, 0 if they are all 0.
func gcd(l ...int) uint64 {
	g := uint64(0)
	for _, n := range l {
		for m := magnitude(n); m != 0; {
			g, m = m, g%m
		}
	}
	return g
}

func magnitude(n int) uint64 {
	if n < 0 {
		return -uint64(n) // of the least int, too
	}
	return uint64(n)
}

// fraction returns n / d, which are in lowest terms, with a positive denominator.
func fraction(n, d wide) (api.Frac, api.Errno) {
	if d.negative() {
		n, d = n.minus(), d.minus()
	}
	if !n.within(limit) || !d.within(limit) {
		return api.Frac{}, api.ErrBig
	}
	return api.Frac{N: int(n.low), D: int(d.low)}, api.OK
}
