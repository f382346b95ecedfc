package span

import "parole/api"

// part returns the values of a set from lo to hi, and whether there are any.
func part(a api.Abs, lo, hi int) (api.Abs, bool) {
	p, ok := classOf(a).within(max(a.Lo, lo), min(a.Hi, hi))
	p.Mask = a.Mask
	return p, ok
}

// ordered returns what is left where a value of a is less than one of b by at least the distance.
func ordered(a, b api.Abs, distance int) (api.Abs, api.Abs, bool) {
	x, isX := part(a, a.Lo, b.Hi-distance)
	y, isY := part(b, a.Lo+distance, b.Hi)
	return x, y, isX && isY
}

func same(a, b api.Abs) (api.Abs, api.Abs, bool) {
	x, ok := Meet(a, b)
	y := x
	x.Mask, y.Mask = a.Mask, b.Mask
	return x, y, ok
}

func different(a, b api.Abs) (api.Abs, api.Abs, bool) {
	x, isX := without(a, b)
	y, isY := without(b, x)
	return x, y, isX && isY
}

// without leaves the value of b out of a, if it is the only one, and stands at an end of a: elsewhere there is no set for the others.
func without(a, b api.Abs) (api.Abs, bool) {
	switch {
	case step(b) != 0:
		return a, true
	case b.Lo == a.Lo:
		return part(a, a.Lo+1, a.Hi)
	case b.Lo == a.Hi:
		return part(a, a.Lo, a.Hi-1)
	}
	return a, true
}
