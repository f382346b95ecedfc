package digest_test

import (
	"math"
	"slices"
	"testing"

	"parole/digest"
)

// P3.1, C1.
func TestStep(t *testing.T) {
	for _, c := range []struct{ h, w, want uint64 }{
		{0, 0, 0}, {7, 7, 0}, {math.MaxUint64, math.MaxUint64, 0}, {0, 1, 0xca009717f87d8879}, {1, 0, 0xca009717f87d8879}, {0, 1 << 63, 0xf39396e4f39396e4}, {math.MaxUint64, 0, 0xa68094cce9e291eb}, {0x0123456789abcdef, 0xfedcba9876543210, 0xa68094cce9e291eb}, {5, 1 << 32, 0xc0636ffd3f242b07},
	} {
		if x := digest.Step(c.h, c.w); x != c.want {
			t.Errorf("Step(%x, %x) is %x, not %x", c.h, c.w, x, c.want)
		}
		if w := digest.Back(c.h, c.want); w != c.w {
			t.Errorf("Back(%x, %x) is %x, not %x", c.h, c.want, w, c.w)
		}
	}
}

// P3.1, C1: against numbers without limits.
func TestStepIsExact(t *testing.T) {
	l := newMaker(1).numbers(100)
	for _, h := range l {
		for _, w := range l {
			if x := digest.Step(h, w); x != step(h, w) {
				t.Fatalf("Step(%x, %x) is %x, not %x", h, w, x, step(h, w))
			}
		}
	}
}

// P3.1, C2.
func TestWords(t *testing.T) {
	hundred := make([]int, 100)
	for i := range hundred {
		hundred[i] = i - 50
	}
	for _, c := range []struct {
		l    []int
		want uint64
	}{
		{nil, 0x27f51e910214133f}, {[]int{}, 0x27f51e910214133f}, {[]int{0}, 0xeb437521e2b2f2bb}, {[]int{0, 0}, 0xd6ae42656a29e50f}, {[]int{1}, 0x47fac96b71733b70}, {[]int{-1}, 0x58c48b4641618724}, {[]int{1, 2, 3}, 0x2014b84a3252bc0e}, {[]int{3, 2, 1}, 0xbb40f9eac3d44dea}, {[]int{math.MinInt, math.MaxInt}, 0x51ae4542e67890eb}, {hundred, 0xdad3b9474bc32cec},
	} {
		if x := digest.Words(c.l); x != c.want {
			t.Errorf("Words(%v) is %x, not %x", c.l, x, c.want)
		}
	}
}

// P3.1, C2.
func TestBytes(t *testing.T) {
	all := make([]byte, 256)
	for i := range all {
		all[i] = byte(i)
	}
	for _, c := range []struct {
		b    []byte
		want uint64
	}{
		{nil, 0x7ac6a14c353889ee}, {[]byte{}, 0x7ac6a14c353889ee}, {make([]byte, 1), 0x97583834886e0aba}, {make([]byte, 7), 0x00035454370f93cc}, {make([]byte, 8), 0xd28069551e82466d}, {make([]byte, 9), 0x36e674ad115b7d52}, {all[1:2], 0x73ace2fbb06e2e1c}, {[]byte{1, 0}, 0x645b69cfafe257dc}, {slices.Repeat([]byte{255}, 8), 0x461a70be510b2d2e}, {all[1:9], 0x4eb86bbc35020003}, {all[1:10], 0x427cd5bbd3358d55}, {[]byte("parole"), 0x9095e924a29e6eec}, {all, 0x62226fa7a379bdcb},
	} {
		if x := digest.Bytes(c.b); x != c.want {
			t.Errorf("Bytes(%v) is %x, not %x", c.b, x, c.want)
		}
	}
}

// P3.1, C2.
func TestJoin(t *testing.T) {
	for _, c := range []struct{ a, b, want uint64 }{
		{0, 0, 0x5f8e352a2468534a}, {0, 1, 0x22d3de2586609384}, {1, 0, 0x08bcdbada37289b7}, {3, 4, 0x31cd4f98f7337924}, {4, 3, 0xa4915f7fcaad6895}, {math.MaxUint64, 1 << 63, 0x927c1da70bd3f9bb},
	} {
		if x := digest.Join(c.a, c.b); x != c.want {
			t.Errorf("Join(%x, %x) is %x, not %x", c.a, c.b, x, c.want)
		}
	}
	l := newMaker(2).numbers(60)
	for _, a := range l {
		for _, b := range l {
			if x := digest.Join(a, b); x != join(a, b) {
				t.Fatalf("Join(%x, %x) is %x, not %x", a, b, x, join(a, b))
			}
		}
	}
}

// P3.1, C2: against numbers without limits, for all short lengths and a few long ones.
func TestListsAreExact(t *testing.T) {
	m := newMaker(3)
	for n := range 70 {
		for range 5 {
			if l := m.list(n); digest.Words(l) != words(l) {
				t.Fatalf("Words(%v) is %x, not %x", l, digest.Words(l), words(l))
			}
			if b := m.bytes(n); digest.Bytes(b) != ofBytes(b) {
				t.Fatalf("Bytes(%v) is %x, not %x", b, digest.Bytes(b), ofBytes(b))
			}
		}
	}
	for _, n := range []int{1000, 4096, 20001} {
		if l := m.list(n); digest.Words(l) != words(l) {
			t.Errorf("Words of %d words is %x, not %x", n, digest.Words(l), words(l))
		}
		if b := m.bytes(n); digest.Bytes(b) != ofBytes(b) {
			t.Errorf("Bytes of %d bytes is %x, not %x", n, digest.Bytes(b), ofBytes(b))
		}
	}
}

// P3.1, C2: the last group is filled up with bytes 0, whatever stands behind the bytes in memory.
func TestPartOfMemory(t *testing.T) {
	b, l := slices.Repeat([]byte{255}, 40), slices.Repeat([]int{-1}, 40)
	for i := range 20 {
		for k := i; k <= 40; k++ {
			if digest.Bytes(b[i:k]) != ofBytes(slices.Clone(b[i:k])) {
				t.Fatalf("Bytes of %d bytes, from byte %d on", k-i, i)
			}
			if digest.Words(l[i:k]) != words(slices.Clone(l[i:k])) {
				t.Fatalf("Words of %d words, from word %d on", k-i, i)
			}
		}
	}
}

// P3.1, C4.
func TestNothingIsModified(t *testing.T) {
	m := newMaker(4)
	for n := range 40 {
		b, l := m.bytes(n+20), m.list(n+20)
		keptB, keptL := slices.Clone(b), slices.Clone(l)
		digest.Bytes(b[:n])
		digest.Words(l[:n])
		if !slices.Equal(b, keptB) || !slices.Equal(l, keptL) {
			t.Fatalf("length %d: the argument has changed", n)
		}
	}
}
