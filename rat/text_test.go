package rat_test

import (
	"strconv"
	"strings"
	"testing"

	"parole/api"
	"parole/rat"
)

// P2.1, B5.
func TestText(t *testing.T) {
	for s, a := range map[string]api.Frac{
		"-3/2": frac(-3, 2), "5": frac(5, 1), "0": zero, "-1": frac(-1, 1), "1/2": frac(1, 2), "10/101": frac(10, 101), "4611686018427387904": frac(most, 1), "-4611686018427387904": frac(-most, 1), "1/4611686018427387904": frac(1, most), "-4611686018427387904/4611686018427387903": frac(-most, most-1), "-4611686018427387903/4611686018427387904": frac(1-most, most),
	} {
		if rat.Text(a) != s {
			t.Errorf("the text of %v is %q", a, rat.Text(a))
		}
		if b, e := rat.Parse(s); a != b || e != api.OK {
			t.Errorf("%q is %v, %d", s, b, e)
		}
	}
}

// P2.6.
func TestParseInvertsText(t *testing.T) {
	m := newMaker(20)
	for _, a := range append(m.fracs(5000, 63), validOf(edges)...) {
		if b, e := rat.Parse(rat.Text(a)); a != b || e != api.OK {
			t.Fatalf("%v is read as %v, %d", a, b, e)
		}
	}
}

// P2.6: the texts of B5, and what is nearly one.
func TestOtherStrings(t *testing.T) {
	for _, s := range []string{
		"", "-", "+", "/", "//", "-/", "/-", "4/2", "1/1", "-0", "+1", "00", "01", "-01", "1/", "/1", "/2", "-/2", "1/0", "0/0", "0/1", "0/2", "1/-2", "-1/-2", "1/+2", "1/02", "1/2/3", "1//2", "--1", "1-", "1.5", "1e3", "0x1", "1_0", "1/1_0", " 1", "1 ", "1 /2", "1/ 2", "1/2\n", "1\x00", "a", "1/a", "a/2", "１", "½", "−1", "\xff", "-2/4", "2/-3",
		"4611686018427387905", "-4611686018427387905", "1/4611686018427387905", "9223372036854775807", "9223372036854775808", "-9223372036854775808", "-9223372036854775809", "18446744073709551617", "1/18446744073709551618", "04611686018427387904", "-04611686018427387904/4611686018427387903", "-4611686018427387904/46116860184273879030", "4611686018427387904/4611686018427387904",
		"1/" + strings.Repeat("0", 100) + "2", strings.Repeat("0", 1<<20) + "1", strings.Repeat("9", 1<<20), strings.Repeat("/", 1<<20), strings.Repeat("-", 1<<20),
	} {
		if a, e := rat.Parse(s); a != (api.Frac{}) || e != api.ErrForm {
			t.Errorf("%.50q is %v, %d", s, a, e)
		}
	}
}

// P2.6: of all short strings, those are read that are the text of a valid fraction.
func TestShortStrings(t *testing.T) {
	texts := map[string]api.Frac{}
	for n := -9999; n <= 99999; n++ {
		texts[strconv.Itoa(n)] = frac(n, 1)
		for d := 2; d <= 999; d++ {
			s := strconv.Itoa(n) + "/" + strconv.Itoa(d)
			if len(s) > 5 {
				break
			}
			if valid(frac(n, d)) {
				texts[s] = frac(n, d)
			}
		}
	}
	var try func(s string)
	try = func(s string) {
		a, e := rat.Parse(s)
		if want, ok := texts[s]; a != want || (e == api.OK) != ok || !ok && e != api.ErrForm {
			t.Fatalf("%q is %v, %d", s, a, e)
		}
		if len(s) == 5 {
			return
		}
		for _, c := range "0123456789/-+ _" {
			try(s + string(c))
		}
	}
	try("")
}
