package syntax_test

import (
	"strings"
	"testing"

	"parole/api"
	"parole/syntax"
)

// short calls f with plain definitions whose texts are short enough.
func short(seed int64, n int, f func(m maker, d api.Def)) {
	m := newMaker(seed)
	for i := range n {
		if d := m.def(i % 7); len(printed(d)) <= api.MaxText {
			f(m, d)
		}
	}
}

// P5.2: the printed text of a definition is read as this definition.
func TestRoundTrip(t *testing.T) {
	short(11, 2000, func(m maker, d api.Def) {
		s, e := syntax.Print(d)
		if e != api.OK {
			t.Fatalf("%+v is not printed: %d", d, e)
		}
		reads(t, s, d)
	})
}

// P5.2: all statements, alone, many times.
func TestRoundTripOfStatements(t *testing.T) {
	m := newMaker(12)
	for op := api.SSet; op <= api.SReturn; op++ {
		for range 50 {
			d := holding(m.stmt(2, op))
			s, e := syntax.Print(d)
			if e != api.OK {
				t.Fatalf("%+v is not printed: %d", d, e)
			}
			reads(t, s, d)
		}
	}
}

// P5.3, P5.4: spaces of all kinds, or none, change nothing, and what is read has the same printed text.
func TestSpaces(t *testing.T) {
	short(13, 1000, func(m maker, d api.Def) {
		for _, s := range []string{tight(d), m.spaced(d), m.spaced(d)} {
			if len(s) > api.MaxText {
				continue
			}
			reads(t, s, d)
			again, _, _ := syntax.Parse(s)
			prints(t, again, printed(d))
		}
	})
}

// P5.3: each kind of space at each place of a text where it may be.
func TestEachSpace(t *testing.T) {
	d, _, _ := syntax.Parse(example)
	l := tokensOf(d)
	for i := 0; i <= len(l); i++ {
		for _, space := range []string{" ", "\t", "\n", "  ", ";\n", "; x ( \" ;\n", ";\r\x00\xfe\n"} {
			s := ""
			for k, x := range l {
				if k == i {
					s += space
				}
				s += x.ahead + x.text
			}
			if i == len(l) {
				s += space
			}
			reads(t, s, d)
		}
	}
	for _, end := range []string{";", "; x", "\n;(", ";\"", " ; ;"} {
		reads(t, strings.TrimSpace(example)+end, d)
	}
}

// P5.3: other bytes that look like spaces are not, and a comment ends at a line feed only.
func TestNoSpaces(t *testing.T) {
	for _, x := range []string{"\r", "\v", "\f", "\x00", "\u00a0", "\x85", ",", "#", "'", "/"} {
		refuses(t, "(def "+x+" 1", 5, api.ErrSyntax)
		refuses(t, "(def 1"+x+" 1", 5, api.ErrSyntax)
		refuses(t, x+example, 0, api.ErrSyntax)
		refuses(t, strings.TrimSpace(example)+x, len(example)-1, api.ErrSyntax)
	}
	refuses(t, "; \r"+example[:80], 83, api.ErrSyntax)
}

// P5.3: no spaces are needed where a token ends anyway, and they are needed between words.
func TestNeededSpaces(t *testing.T) {
	s := `(def 1 2"n"firm 3 part 4 budget 5(params(0 1 2)(3 4 5))(given)vars 6 refs 7(arrays)(return 1(add v0;c` + "\n" + `(min 1 2))))`
	d, at, e := syntax.Parse(s)
	if at != 0 || e != api.OK || d.Name != "n" || d.Vars != 6 || len(d.Params) != 2 || len(d.Body) != 1 {
		t.Fatal(d, at, e)
	}
	refuses(t, strings.Replace(s, "1 2", "12", 1), strings.Index(s, `"`)-1, api.ErrSyntax)
	refuses(t, strings.Replace(s, "def 1", "def1", 1), 1, api.ErrSyntax)
	refuses(t, strings.Replace(s, "firm 3", "firm3", 1), strings.Index(s, "firm"), api.ErrSyntax)
	refuses(t, strings.Replace(s, "firm 3", "fi rm 3", 1), strings.Index(s, "firm"), api.ErrSyntax)
	refuses(t, strings.Replace(s, "add v0", "add v 0", 1), strings.Index(s, "v0"), api.ErrSyntax)
	refuses(t, strings.Replace(s, "add v0", "addv0", 1), strings.Index(s, "add"), api.ErrSyntax)
	refuses(t, strings.Replace(s, `"n"`, `"n"" "`, 1), strings.Index(s, "firm"), api.ErrSyntax)
}

// P5.4: all texts of a definition have the same printed text, and those of others another one.
func TestPrintedTextsDiffer(t *testing.T) {
	seen := map[string]api.Def{}
	short(14, 3000, func(m maker, d api.Def) {
		s, _ := syntax.Print(d)
		if other, ok := seen[s]; ok && !same(other, d) {
			t.Fatalf("%+v and %+v have the same text", d, other)
		}
		seen[s] = d
	})
}

// agrees fails unless s is read, or refused, as the model says; then what stands ahead of the offset begins a text, and nothing depends on what follows the wrong token.
func agrees(t *testing.T, s string) {
	t.Helper()
	at, e, m := modelParse(s)
	if e == api.OK {
		if d, a, f := syntax.Parse(s); a != 0 || f != api.OK {
			t.Fatalf("%q\nends with %d, %d (and %+v)", s, a, f, d)
		}
		return
	}
	refuses(t, s, at, e)
	if len(s) > api.MaxText || e == api.ErrBig {
		return
	}
	if text := s[:at] + "\n" + m.completion(); len(text) < api.MaxText && m.open < 57 {
		if _, a, f := syntax.Parse(text); f != api.OK {
			t.Fatalf("what is ahead of %d in %q, and then %q, ends with %d, %d", at, s, m.completion(), a, f)
		}
	}
	token := tokenRE.FindString(s[at:])
	if token != "" && token != `"` {
		for _, tail := range []string{"", " ", ")", " \"", "(((", "; x", "\n0 (use 1 p0) v1"} {
			refuses(t, s[:at]+token+tail, at, api.ErrSyntax)
		}
	}
}

// P5.5, P5.1, E1: texts with changes of a token.
func TestWrongTokens(t *testing.T) {
	tokens := strings.Fields(`( ) " "x" "" 0 1 -1 -0 01 4611686018427387904 4611686018427387905 -4611686018427387905 9223372036854775808 99999999999999999999 x v v0 v00 v-1 v4611686018427387905 a1 g1 r1 d1 l1 q1 c1 k1 p1 len0 len none true false def firm part budget params given vars refs arrays set load if while call try add sub max lt not and or use return )) (( () (0 1 2) (use 1 p1)`)
	short(15, 700, func(m maker, d api.Def) {
		var l []string
		for _, x := range tokensOf(d) {
			l = append(l, x.text)
		}
		for range 1 + m.r.Intn(2) {
			i, x := m.r.Intn(len(l)), tokens[m.r.Intn(len(tokens))]
			switch m.r.Intn(4) {
			case 0:
				l[i] = x
			case 1:
				l[i] += " " + x
			case 2:
				l[i] = ""
			case 3:
				k := m.r.Intn(len(l))
				l[i], l[k] = l[k], l[i]
			}
		}
		agrees(t, strings.Join(l, " "))
	})
}

// P5.5, P5.1, E1: texts with changes of a byte, or that are cut off.
func TestWrongBytes(t *testing.T) {
	short(16, 700, func(m maker, d api.Def) {
		s := []byte(m.spaced(d))
		const bytes = "()\" \n\t;01v-x\x00\x1f\x7f\x80\xff"
		for range 1 + m.r.Intn(2) {
			i, c := m.r.Intn(len(s)), bytes[m.r.Intn(len(bytes))]
			switch m.r.Intn(3) {
			case 0:
				s[i] = c
			case 1:
				s = append(s[:i], s[i+1:]...)
			case 2:
				s = append(s[:i], append([]byte{c}, s[i:]...)...)
			}
		}
		agrees(t, string(s))
		agrees(t, string(s[:m.r.Intn(len(s))]))
	})
}

// P5.5: a text that is cut off anywhere ends there, or where its last word begins.
func TestCutOff(t *testing.T) {
	s := strings.TrimSpace(example)
	for i := range s {
		agrees(t, s[:i])
		agrees(t, s[:i]+"; (")
		agrees(t, s[:i]+" x")
		agrees(t, s[:i]+" \"")
	}
	agrees(t, s)
	agrees(t, s+" )")
	agrees(t, s+s)
}

// P5.5: offsets of a few wrong tokens.
func TestOffsets(t *testing.T) {
	for _, c := range []struct {
		s     string
		wrong string // what the text goes on with from the offset
	}{
		{"  ; x\n x", "x"}, {"; (def", ""}, {"def", "def"}, {")", ")"}, {"()", ")"}, {"((def", "(def"}, {"(def1 2", "def1 2"}, {`(def 1 2 "a`, `"a`}, {`(def 1 2 "a` + "\n" + `"`, `"a` + "\n" + `"`}, {`(def 1 2 "` + "\x7f" + `"`, `"` + "\x7f" + `"`}, {`(def 1 2 "é"`, `"é"`}, {`(def 1 "2" 3`, `"2" 3`}, {`(def 1 2 "a" firm 1 part 2 budget 3 params`, "params"}, {`(def 1 2 "a" firm 1 part 2 budget 3 (params 0`, "0"}, {`(def 1 2 "a" firm 1 part 2 budget 3 (params (0 1)`, ")"}, {`(def 1 2 "a" firm 1 part 2 budget 3 (params (0 1 2 3)`, "3)"}, {bare + ") )", ")"}, {bare + `) "`, `"`}, {bare + " (", ""}, {bare + " ()", ")"}, {bare + " ((set", "(set"}, {bare + " (Set 1", "Set 1"}, {bare + " (if 1 true () ) ", ") "}, {bare + " (if 1 true (use 1 p1)", "use 1 p1)"}, {bare + " (while 1 2 true () ()", "()"}, {bare + " (while 1 true ()", "true ()"}, {bare + " (try 1 none () () ()", "()"}, {bare + " (call 1 none d1 (1) (1)", "1)"}, {bare + " (call 1 none d1 ((1))", "1))"}, {bare + " (call 1 none d-1", "d-1"}, {bare + " (call 1 true d1", "true d1"}, {bare + " (set 1 none 1", "none 1"}, {bare + " (assert 1 1", "1"}, {bare + " (assert 1 (true)", "true)"}, {bare + " (assert 1 (not true true", "true"}, {bare + " (assert 1 (lt 1 true", "true"}, {bare + " (assert 1 (and 1", "1"}, {bare + " (return 1 true", "true"}, {bare + " (return 1 (add 1 2 3", "3"}, {bare + " (return 1 (add 1)", ")"}, {bare + " (return 1 (v0", "v0"}, {bare + " (return 1 -", "-"}, {bare + " (return 1 lenv0", "lenv0"}, {bare + " (return 1 len-0", "len-0"},
	} {
		refuses(t, c.s, len(c.s)-len(c.wrong), api.ErrSyntax)
		agrees(t, c.s)
	}
}
