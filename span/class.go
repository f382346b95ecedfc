package span

import "parole/api"

// A class has the numbers that differ from r by a multiple of m: r alone if m is 0.
type class struct{ r, m int }

func classOf(a api.Abs) class { return class{a.Lo, step(a)} }

// step returns how far the values of a set are apart, 0 if it has only one.
func step(a api.Abs) int {
	if a.Lo == a.Hi {
		return 0
	}
	return a.M
}

func (c class) has(v int) bool {
	if c.m == 0 {
		return v == c.r
	}
	return (v-c.r)%c.m == 0
}

// within returns the set of the elements from lo to hi, with the mask 0, and whether there are any.
func (c class) within(lo, hi int) (api.Abs, bool) {
	if c.m == 0 {
		lo, hi = max(lo, c.r), min(hi, c.r)
	} else {
		lo, hi = lo+modulo(c.r-lo, c.m), hi-modulo(hi-c.r, c.m)
	}
	switch {
	case lo > hi:
		return api.Abs{}, false
	case lo == hi:
		return Of(api.Word{V: lo}), true
	}
	return api.Abs{Lo: lo, Hi: hi, M: c.m, R: modulo(lo, c.m)}, true
}

// modulo returns the remainder that is not negative.
func modulo(v, m int) int {
	r := v % m
	if r < 0 {
		return r + m
	}
	return r
}

// divisor returns the greatest divisor of the sizes of some numbers, 0 if all are 0.
func divisor(numbers ...int) int {
	d := 0
	for _, n := range numbers {
		for n != 0 {
			d, n = n, d%n
		}
	}
	return size(d)
}

func size(v int) int { return max(v, -v) }
