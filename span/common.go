package span

import "parole/api"

// far is more than any two values differ by.
const far = 1 << 32

// common returns the class of the values in both sets, where r is the first one from both Lo on, and whether there are any; r may be beyond a Hi.
//
// r is a.Lo + k s, where k s is b.Lo - a.Lo modulo t: this is divided by g, so that it has one solution k modulo n.
func common(a, b api.Abs) (class, bool) {
	if a.Lo < b.Lo {
		a, b = b, a
	}
	s, t := max(a.M, 1), max(b.M, 1) // M is less only in sets that are not valid: nothing is divided by 0 for them, either
	g := divisor(s, t)
	if (b.Lo-a.Lo)%g != 0 {
		return class{}, false
	}
	n := t / g
	k := uint64(modulo((b.Lo-a.Lo)/g, n)) * uint64(inverse(s/g, n)) % uint64(n)
	return class{a.Lo + atMostFar(s, int(k)), atMostFar(s, n)}, true
}

// inverse returns the number whose product with n is 1 modulo m, for n and m without a common divisor.
func inverse(n, m int) int {
	x, y := 1, 0 // modulo m, n is x times what it was at first, and rest y times
	for rest := m; rest != 0; {
		q := n / rest
		n, rest = rest, n-q*rest
		x, y = y, x-q*y
	}
	return modulo(x, m)
}

// atMostFar returns the product of two numbers below 2^32, which may have 64 bits, or far, if it is more.
func atMostFar(n, m int) int { return int(min(uint64(n)*uint64(m), far)) }
