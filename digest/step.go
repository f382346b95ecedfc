package digest

const (
	firstFactor  = 0x9E3779B97F4A7C15
	secondFactor = 0xBF58476D1CE4E5B9
	firstShift   = 29
	secondShift  = 32
)

func fold(x uint64, n int) uint64 { return x ^ x>>n }

// unfold undoes fold. It requires that n is at least 22: a third shift would leave nothing.
func unfold(x uint64, n int) uint64 { return x ^ x>>n ^ x>>(2*n) }

// inverse returns the number whose product with n, which is odd, is 1.
func inverse(n uint64) uint64 {
	x := n // right in its lowest 3 bits, as the square of an odd number is 1 modulo 8
	for range 5 {
		x *= 2 - n*x // twice as many bits are right
	}
	return x
}

// number takes the first byte as the lowest one.
func number(group [8]byte) uint64 {
	x := uint64(0)
	for i, b := range group {
		x |= uint64(b) << (8 * i)
	}
	return x
}
