package digest_test

import (
	"slices"
	"testing"

	"parole/digest"
)

// P3.2: Back is the inverse of Step, on both sides.
func TestStepsAreUndone(t *testing.T) {
	l := newMaker(10).numbers(300)
	for _, h := range l {
		for _, w := range l {
			if v := digest.Back(h, digest.Step(h, w)); v != w {
				t.Fatalf("the step from %x by %x is undone to %x", h, w, v)
			}
			if x := digest.Step(h, digest.Back(h, w)); x != w {
				t.Fatalf("the step from %x that should lead to %x leads to %x", h, w, x)
			}
			if g := digest.Back(w, digest.Step(h, w)); g != h {
				t.Fatalf("the step by %x from %x came from %x", w, h, g)
			}
		}
	}
}

// P3.2: different words, and different digests, lead to different digests.
func TestStepsDiffer(t *testing.T) {
	m := newMaker(11)
	for _, h := range m.numbers(5) {
		from := m.numbers(2000)
		for k := range uint64(2000) {
			from = append(from, h+k, h+k<<32, h^k<<52)
		}
		slices.Sort(from)
		from = slices.Compact(from)
		byWord, byDigest := map[uint64]uint64{}, map[uint64]uint64{}
		for _, w := range from {
			x, y := digest.Step(h, w), digest.Step(w, h)
			if v, ok := byWord[x]; ok {
				t.Fatalf("from %x, both %x and %x lead to %x", h, v, w, x)
			}
			if v, ok := byDigest[y]; ok {
				t.Fatalf("by %x, both %x and %x lead to %x", h, v, w, y)
			}
			byWord[x], byDigest[y] = w, w
		}
	}
}

// P3.3: each bit of each word counts, and so do all of a word together.
func TestOneWordDiffers(t *testing.T) {
	m := newMaker(12)
	for n := 1; n <= 12; n++ {
		l := m.list(n)
		x := digest.Words(l)
		for i := range l {
			other := slices.Clone(l)
			for _, d := range differences(m) {
				if other[i] = l[i] ^ int(d); digest.Words(other) == x {
					t.Fatalf("%v and %v have one digest", l, other)
				}
			}
		}
	}
}

// P3.3: bytes, in one group of 8, also in the last one.
func TestOneGroupDiffers(t *testing.T) {
	m := newMaker(13)
	for n := 1; n <= 40; n++ {
		b := m.bytes(n)
		x := digest.Bytes(b)
		for i := range b {
			other := slices.Clone(b)
			for d := 1; d < 256; d++ {
				if other[i] = b[i] ^ byte(d); digest.Bytes(other) == x {
					t.Fatalf("%v and %v have one digest", b, other)
				}
			}
		}
		for i := 0; i < n; i += 8 {
			other := slices.Clone(b)
			copy(other[i:min(i+8, n)], m.bytes(8))
			if !slices.Equal(other, b) && digest.Bytes(other) == x {
				t.Fatalf("%v and %v have one digest", b, other)
			}
		}
	}
}

// P3.3: pairs.
func TestOneElementDiffers(t *testing.T) {
	m := newMaker(14)
	for range 100 {
		a, b := m.number(), m.number()
		x := digest.Join(a, b)
		for _, d := range differences(m) {
			if digest.Join(a^d, b) == x || digest.Join(a, b^d) == x {
				t.Fatalf("%x and %x have the digest of a pair that differs by %x", a, b, d)
			}
		}
	}
}

// differences are what words differ by: single bits, and more of them.
func differences(m maker) []uint64 {
	var out []uint64
	for k := range 64 {
		out = append(out, 1<<k)
	}
	for _, d := range m.numbers(50) {
		if d != 0 {
			out = append(out, d)
		}
	}
	return out
}

// P3.4: with one more word, a list gets any digest.
func TestForgedLists(t *testing.T) {
	m := newMaker(15)
	for n := range 30 {
		l := m.list(n)
		h := digest.Step(0x243F6A8885A308D3, uint64(n)+1)
		for _, w := range l {
			h = digest.Step(h, uint64(w))
		}
		for _, want := range m.numbers(50) {
			forged := append(slices.Clone(l), int(digest.Back(h, want)))
			if x := digest.Words(forged); x != want {
				t.Fatalf("%v has the digest %x, not %x", forged, x, want)
			}
		}
	}
}

// P3.4: different lists can be given one digest.
func TestForgedCollision(t *testing.T) {
	l := []int{1, 2, 3}
	h := digest.Step(digest.Step(0x243F6A8885A308D3, 2), 4)
	other := []int{4, int(digest.Back(h, digest.Words(l)))}
	if digest.Words(other) != digest.Words(l) {
		t.Errorf("%v and %v", l, other)
	}
}
