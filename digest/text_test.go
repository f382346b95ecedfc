package digest_test

import (
	"math"
	"strings"
	"testing"

	"parole/api"
	"parole/digest"
)

// P3.1, C3.
func TestText(t *testing.T) {
	for s, x := range map[string]uint64{
		"0000000000000000": 0, "0000000000000001": 1, "0000000000000009": 9, "000000000000000a": 10, "000000000000000f": 15, "0000000000000010": 16, "00000000000000ff": 255, "0123456789abcdef": 0x0123456789abcdef, "fedcba9876543210": 0xfedcba9876543210, "7fffffffffffffff": math.MaxInt64, "8000000000000000": 1 << 63, "ffffffffffffffff": math.MaxUint64, "9999999999999999": 0x9999999999999999, "aaaaaaaaaaaaaaaa": 0xaaaaaaaaaaaaaaaa,
	} {
		if digest.Text(x) != s {
			t.Errorf("the text of %d is %q, not %q", x, digest.Text(x), s)
		}
		if y, e := digest.Parse(s); y != x || e != api.OK {
			t.Errorf("%q is read as %d, %d", s, y, e)
		}
	}
}

// P3.5.
func TestParseInvertsText(t *testing.T) {
	for _, x := range newMaker(20).numbers(20000) {
		s := digest.Text(x)
		if y, e := digest.Parse(s); y != x || e != api.OK {
			t.Fatalf("%q, the text of %x, is read as %x, %d", s, x, y, e)
		}
	}
}

func isDigit(c byte) bool { return strings.IndexByte("0123456789abcdef", c) >= 0 }

func refused(t *testing.T, s string) {
	t.Helper()
	if x, e := digest.Parse(s); x != 0 || e != api.ErrForm {
		t.Errorf("%.60q is read as %x, %d", s, x, e)
	}
}

// P3.5: each byte at each place.
func TestOneByteDiffers(t *testing.T) {
	for i := range 16 {
		for c := range 256 {
			b := []byte("0123456789abcdef")
			b[i] = byte(c)
			s := string(b)
			if !isDigit(byte(c)) {
				refused(t, s)
			} else if x, e := digest.Parse(s); e != api.OK || digest.Text(x) != s {
				t.Errorf("%q is read as %x, %d", s, x, e)
			}
		}
	}
}

// P3.5: texts of other lengths.
func TestOtherLengths(t *testing.T) {
	for n := range 200 {
		for _, c := range []string{"0", "1", "f"} {
			if n != 16 {
				refused(t, strings.Repeat(c, n))
			}
		}
	}
	refused(t, strings.Repeat("0", 1<<20))
	refused(t, strings.Repeat("0", 1<<16+16))
}

// P3.5: what is nearly a text.
func TestOtherStrings(t *testing.T) {
	for _, s := range []string{
		"", " ", "0x00000000000001", "0X00000000000001", "0x0000000000000001", "+000000000000001", "-000000000000001", "+0000000000000001", "000000000000_001", "00000000000000FF", "ABCDEF0123456789", "0123456789abcdeF", " 000000000000001", "000000000000001 ", "0000000000000001\n", "\n0000000000000001", "0000000000000001\x00", "00000000\x0000000001", "000000000000.001", "00000000000001e+", "000000000000000g", "000000000000000`", "000000000000000/", "000000000000000:", "zzzzzzzzzzzzzzzz", "\xff\xff\xff\xff\xff\xff\xff\xff\xff\xff\xff\xff\xff\xff\xff\xff", "00000000000000é", "0000000000000１", "０００００００００００００００１", "0000000000000000 0000000000000000",
	} {
		refused(t, s)
	}
}
