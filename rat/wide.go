package rat

import "math/bits"

// A wide is a number of 128 bits, in two's complement.
type wide struct{ high, low uint64 }

func product(a, b int) wide {
	high, low := bits.Mul64(uint64(a), uint64(b))
	if a < 0 { // uint64(a) is 2^64 too much
		high -= uint64(b)
	}
	if b < 0 {
		high -= uint64(a)
	}
	return wide{high, low}
}

func (w wide) plus(v wide) wide {
	low, carry := bits.Add64(w.low, v.low, 0)
	high, _ := bits.Add64(w.high, v.high, carry)
	return wide{high, low}
}

func (w wide) minus() wide {
	low, borrow := bits.Sub64(0, w.low, 0)
	high, _ := bits.Sub64(0, w.high, borrow)
	return wide{high, low}
}

func (w wide) negative() bool { return int64(w.high) < 0 }

func (w wide) less(v wide) bool {
	if w.high != v.high {
		return int64(w.high) < int64(v.high)
	}
	return w.low < v.low
}

func (w wide) magnitude() wide {
	if w.negative() {
		return w.minus()
	}
	return w
}

func (w wide) within(n uint64) bool {
	m := w.magnitude()
	return m.high == 0 && m.low <= n
}

// over requires that n divides w, and is not 0.
func (w wide) over(n uint64) wide {
	m := w.magnitude()
	low, _ := bits.Div64(m.high%n, m.low, n)
	q := wide{m.high / n, low}
	if w.negative() {
		return q.minus()
	}
	return q
}

// modulo returns what n leaves of the magnitude.
func (w wide) modulo(n uint64) uint64 {
	m := w.magnitude()
	return bits.Rem64(m.high, m.low, n)
}
