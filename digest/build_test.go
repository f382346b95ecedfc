package digest_test

import (
	"encoding/binary"
	"math"
	"math/big"
	"math/rand"
	"slices"
)

// edges are the numbers at which bits, shifts and signs are most likely to go wrong.
var edges = []uint64{0, 1, 2, 7, 255, 256, 1<<29 - 1, 1 << 29, 1<<31 - 1, 1 << 31, 1<<32 - 1, 1 << 32, 1<<35 - 1, 1 << 35, 1<<58 - 1, 1 << 58, 1<<63 - 1, 1 << 63, 1<<63 + 1, math.MaxUint64 - 1, math.MaxUint64, 0x9E3779B97F4A7C15, 0xBF58476D1CE4E5B9, 0x0123456789abcdef, 0xfedcba9876543210}

func bigOf(x uint64) *big.Int { return new(big.Int).SetUint64(x) }

func low64(x *big.Int) *big.Int { return x.Mod(x, new(big.Int).Lsh(big.NewInt(1), 64)) }

func quotient(x *big.Int, n uint64) *big.Int { return new(big.Int).Div(x, bigOf(n)) }

// step is what chapter 3 says of a step, word for word, with numbers without limits.
func step(h, w uint64) uint64 {
	x := bigOf(h ^ w)
	x = low64(x.Mul(x, bigOf(0x9E3779B97F4A7C15)))
	x.Xor(x, quotient(x, 1<<29))
	x = low64(x.Mul(x, bigOf(0xBF58476D1CE4E5B9)))
	x.Xor(x, quotient(x, 1<<32))
	return x.Uint64()
}

func words(l []int) uint64 {
	h := step(0x243F6A8885A308D3, uint64(len(l)))
	for _, w := range l {
		h = step(h, low64(big.NewInt(int64(w))).Uint64())
	}
	return h
}

// groups returns the numbers of the groups of 8 bytes, the last one filled up.
func groups(b []byte) []uint64 {
	filled := append(slices.Clone(b), make([]byte, (8-len(b)%8)%8)...)
	var out []uint64
	for i := 0; i < len(filled); i += 8 {
		out = append(out, binary.LittleEndian.Uint64(filled[i:]))
	}
	return out
}

func ofBytes(b []byte) uint64 {
	h := step(0x13198A2E03707344, uint64(len(b)))
	for _, w := range groups(b) {
		h = step(h, w)
	}
	return h
}

func join(a, b uint64) uint64 { return step(step(0xA4093822299F31D0, a), b) }

// A maker makes the same numbers, lists and bytes whenever the tests run.
type maker struct{ r *rand.Rand }

func newMaker(seed int64) maker { return maker{rand.New(rand.NewSource(seed))} }

func (m maker) number() uint64 {
	switch m.r.Intn(4) {
	case 0:
		return edges[m.r.Intn(len(edges))]
	case 1:
		return m.r.Uint64() >> m.r.Intn(64)
	}
	return m.r.Uint64()
}

// numbers returns n of them that differ, and the edges.
func (m maker) numbers(n int) []uint64 {
	l := slices.Clone(edges)
	for range n {
		l = append(l, m.number())
	}
	slices.Sort(l)
	return slices.Compact(l)
}

func (m maker) list(n int) []int {
	l := make([]int, n)
	for i := range l {
		l[i] = int(m.number())
	}
	return l
}

// bytes returns some that are seldom 0.
func (m maker) bytes(n int) []byte {
	b := make([]byte, n)
	for i := range b {
		b[i] = byte(m.r.Intn(256)) | byte(m.r.Intn(2))
	}
	return b
}
