package syntax_test

import (
	"fmt"
	"math/rand"
	"reflect"
	"strings"
	"testing"

	"parole/api"
	"parole/syntax"
)

// statements are the texts of statements as the chapter's table has them, by their operators.
func statements() []string {
	return []string{
		api.SSet: "set Site vN X", api.SLoad: "load Site vN aM X", api.SStore: "store Site aM X Y",
		api.SRead: "read Site vN gM", api.SWrite: "write Site gM X",
		api.SNew: "new Site rN", api.SFree: "free Site rN", api.SMove: "move Site rN rM",
		api.SPut: "put Site rN X", api.SGet: "get Site vN rM",
		api.SIf: "if Site C Body Else", api.SWhile: "while Site V C Body",
		api.SCall: "call Site W dM Args Ptrs", api.SThrow: "throw Site V", api.STry: "try Site W Body Else",
		api.SLock: "lock Site lM", api.SUnlock: "unlock Site lM",
		api.SSend: "send Site qM X", api.SRecv: "recv Site vN qM",
		api.SSource: "source Site vN cM", api.SSink: "sink Site kM X",
		api.SUse: "use Site pM", api.SAssert: "assert Site C", api.SReturn: "return Site X",
	}
}

func expressions() []string {
	return []string{api.EAdd: "add", api.ESub: "sub", api.EMul: "mul", api.EDiv: "div", api.EMod: "mod", api.EMin: "min", api.EMax: "max"}
}

// conditions are the texts with parentheses.
func conditions() []string {
	return []string{api.CLt: "lt X X", api.CLe: "le X X", api.CEq: "eq X X", api.CNot: "not C", api.CAnd: "and C C", api.COr: "or C C"}
}

// A tok is a token, and what is printed ahead of it.
type tok struct{ ahead, text string }

// A speller writes the tokens of a definition, one after the other.
type speller struct{ out []tok }

func (w *speller) put(ahead, text string) { w.out = append(w.out, tok{ahead, text}) }

func (w *speller) words(format string, args ...any) {
	for _, x := range strings.Fields(fmt.Sprintf(format, args...)) {
		w.put(" ", x)
	}
}

// close drops the blank behind a parenthesis that stands at i, and closes it.
func (w *speller) close(i int) {
	if i+1 < len(w.out) {
		w.out[i+1].ahead = ""
	}
	w.put("", ")")
}

// list writes parentheses around what inner writes.
func (w *speller) list(ahead string, inner func()) {
	at := len(w.out)
	w.put(ahead, "(")
	inner()
	w.close(at)
}

func line(k int) string { return "\n" + strings.Repeat(" ", k) }

func (w *speller) expr(x api.Expr) {
	switch x.Op {
	case api.ENum:
		w.words("%d", x.V)
	case api.EVar:
		w.words("v%d", x.N)
	case api.ELen:
		w.words("len%d", x.N)
	default:
		w.list(" ", func() {
			w.words("%s", expressions()[x.Op])
			w.expr(x.A[0])
			w.expr(x.A[1])
		})
	}
}

func (w *speller) cond(c api.Cond) {
	if c.Op == api.CTrue {
		w.words("true")
		return
	}
	w.list(" ", func() {
		w.words("%s", strings.Fields(conditions()[c.Op])[0])
		for _, x := range c.A {
			w.expr(x)
		}
		for _, x := range c.C {
			w.cond(x)
		}
	})
}

// stmt writes a statement for which k holds.
func (w *speller) stmt(ahead string, k int, s api.Stmt) {
	block := func(l []api.Stmt) {
		w.list(line(k+2), func() {
			for _, x := range l {
				w.stmt(line(k+3), k+3, x)
			}
		})
	}
	w.list(ahead, func() {
		for i, part := range strings.Fields(statements()[s.Op]) {
			switch part {
			case "X":
				w.expr(s.X)
			case "Y":
				w.expr(s.Y)
			case "C":
				w.cond(s.C)
			case "Body":
				block(s.Body)
			case "Else":
				block(s.Else)
			case "Args":
				w.list(" ", func() {
					for _, x := range s.Args {
						w.expr(x)
					}
				})
			case "Ptrs":
				w.list(" ", func() {
					for _, p := range s.Ptrs {
						w.words("r%d", p)
					}
				})
			default:
				w.words("%s", shortPart(i, part, s))
			}
		}
	})
}

// shortPart is the text of part i that is a single token.
func shortPart(i int, part string, s api.Stmt) string {
	switch {
	case i == 0:
		return part
	case part == "Site":
		return fmt.Sprint(s.Site)
	case part == "V":
		return fmt.Sprint(s.V)
	case part == "W" && s.N == -1:
		return "none"
	case part == "W":
		return fmt.Sprintf("v%d", s.N)
	case part[1] == 'N':
		return fmt.Sprintf("%c%d", part[0], s.N)
	}
	return fmt.Sprintf("%c%d", part[0], s.M)
}

func (w *speller) def(d api.Def) {
	ranges := func(word string, l []api.Range) {
		w.list(" ", func() {
			w.words("%s", word)
			for _, r := range l {
				w.list(" ", func() { w.words("%d %d %d", r.Lo, r.Hi, r.Mask) })
			}
		})
	}
	w.list("", func() {
		w.words("def %d %d", d.Id, d.Site)
		w.put(" ", `"`+d.Name+`"`)
		w.words("firm %d part %d budget %d", d.Firm, d.Part, d.Budget)
		ranges("params", d.Params)
		ranges("given", d.Given)
		w.words("vars %d refs %d", d.Vars, d.Refs)
		w.list(" ", func() {
			w.words("arrays")
			for _, a := range d.Arrays {
				w.list(" ", func() { w.words("%d %d", a.Len, a.Of) })
			}
		})
		for _, s := range d.Body {
			w.stmt(line(2), 2, s)
		}
	})
}

func tokensOf(d api.Def) []tok {
	var w speller
	w.def(d)
	return w.out
}

// printed is the printed text of a plain definition, of any length.
func printed(d api.Def) string {
	var b strings.Builder
	for _, t := range tokensOf(d) {
		b.WriteString(t.ahead + t.text)
	}
	return b.String() + "\n"
}

// tight is the shortest text: with blanks only between two words.
func tight(d api.Def) string {
	var b strings.Builder
	word := false
	for _, t := range tokensOf(d) {
		now := strings.IndexByte(`()"`, t.text[0]) < 0
		if word && now {
			b.WriteByte(' ')
		}
		word = now
		b.WriteString(t.text)
	}
	return b.String()
}

// spaced is a text with any spaces that are possible.
func (m maker) spaced(d api.Def) string {
	var b strings.Builder
	word := false
	for _, t := range tokensOf(d) {
		now := strings.IndexByte(`()"`, t.text[0]) < 0
		b.WriteString(m.space(word && now))
		word = now
		b.WriteString(t.text)
	}
	last := []string{"", "; the end", ";", "; \"", "\n"}
	return b.String() + m.space(false) + last[m.r.Intn(len(last))]
}

func (m maker) space(needed bool) string {
	kinds := []string{" ", "\t", "\n", "; (def 1 \"\n", ";\n", ";;\t)\x00\xff\r \" ;\n", "   "}
	out := ""
	for range m.r.Intn(3) {
		out += kinds[m.r.Intn(len(kinds))]
	}
	if needed && out == "" {
		return kinds[m.r.Intn(len(kinds))]
	}
	return out
}

// A maker makes the same definitions whenever the tests run.
type maker struct{ r *rand.Rand }

func newMaker(seed int64) maker { return maker{rand.New(rand.NewSource(seed))} }

func (m maker) number() int {
	switch m.r.Intn(8) {
	case 0:
		return 1 << 62
	case 1:
		return -1 << 62
	case 2:
		return m.r.Intn(1<<62) - m.r.Intn(1<<62)
	}
	return m.r.Intn(12) - 4
}

func (m maker) index() int { return max(m.number(), 0) }

// target is a variable, or -1.
func (m maker) target() int {
	if m.r.Intn(3) == 0 {
		return -1
	}
	return m.index()
}

func some[T any](n int, make func() T) []T {
	var l []T
	for range n {
		l = append(l, make())
	}
	return l
}

func (m maker) expr(depth int) api.Expr {
	op := 1 + m.r.Intn(api.EMax)
	if depth == 0 {
		op = 1 + m.r.Intn(3)
	}
	switch op {
	case api.ENum:
		return api.Expr{Op: op, V: m.number()}
	case api.EVar, api.ELen:
		return api.Expr{Op: op, N: m.index()}
	}
	return api.Expr{Op: op, A: []api.Expr{m.expr(depth - 1), m.expr(depth - 1)}}
}

func (m maker) cond(depth int) api.Cond {
	op := 1 + m.r.Intn(api.COr)
	if depth == 0 {
		op = 1 + m.r.Intn(api.CEq)
	}
	c := api.Cond{Op: op}
	switch op {
	case api.CLt, api.CLe, api.CEq:
		c.A = []api.Expr{m.expr(2), m.expr(2)}
	case api.CNot:
		c.C = []api.Cond{m.cond(depth - 1)}
	case api.CAnd, api.COr:
		c.C = []api.Cond{m.cond(depth - 1), m.cond(depth - 1)}
	}
	return c
}

// stmt returns a plain statement with the given operator, or any.
func (m maker) stmt(depth, op int) api.Stmt {
	for op == 0 || depth == 0 && strings.Contains(statements()[op], "Body") {
		op = 1 + m.r.Intn(api.SReturn)
	}
	s := api.Stmt{Op: op}
	for _, part := range strings.Fields(statements()[op])[1:] {
		switch part {
		case "Site":
			s.Site = m.number()
		case "V":
			s.V = m.number()
		case "W":
			s.N = m.target()
		case "X":
			s.X = m.expr(3)
		case "Y":
			s.Y = m.expr(3)
		case "C":
			s.C = m.cond(2)
		case "Body":
			s.Body = some(m.r.Intn(4), func() api.Stmt { return m.stmt(depth-1, 0) })
		case "Else":
			s.Else = some(m.r.Intn(3), func() api.Stmt { return m.stmt(depth-1, 0) })
		case "Args":
			s.Args = some(m.r.Intn(4), func() api.Expr { return m.expr(2) })
		case "Ptrs":
			s.Ptrs = some(m.r.Intn(4), m.index)
		default:
			if part[1] == 'N' {
				s.N = m.index()
			} else {
				s.M = m.index()
			}
		}
	}
	return s
}

func (m maker) name() string {
	b := make([]byte, m.r.Intn(41))
	for i := range b {
		for b[i] = '"'; b[i] == '"'; {
			b[i] = byte(32 + m.r.Intn(95))
		}
	}
	return string(b)
}

// def returns a plain definition with n statements, and those within them.
func (m maker) def(n int) api.Def {
	ranges := func() api.Range { return api.Range{Lo: m.number(), Hi: m.number(), Mask: m.number()} }
	return api.Def{
		Id: m.number(), Site: m.number(), Name: m.name(), Firm: m.number(), Part: m.number(), Budget: m.number(),
		Params: some(m.r.Intn(4), ranges), Given: some(m.r.Intn(4), ranges), Vars: m.number(), Refs: m.number(),
		Arrays: some(m.r.Intn(4), func() api.Array { return api.Array{Len: m.number(), Of: m.number()} }),
		Body:   some(n, func() api.Stmt { return m.stmt(3, 0) }),
	}
}

// tidy returns a copy of x with memory of its own, in which all lists without elements are nil.
func tidy[T any](x T) T {
	var out T
	copyInto(reflect.ValueOf(&out).Elem(), reflect.ValueOf(x))
	return out
}

func copyInto(to, from reflect.Value) {
	switch from.Kind() {
	case reflect.Struct:
		for i := range from.NumField() {
			copyInto(to.Field(i), from.Field(i))
		}
	case reflect.Slice:
		if n := from.Len(); n > 0 {
			to.Set(reflect.MakeSlice(from.Type(), n, n))
			for i := range n {
				copyInto(to.Index(i), from.Index(i))
			}
		}
	default:
		to.Set(from)
	}
}

func same(a, b api.Def) bool { return reflect.DeepEqual(tidy(a), tidy(b)) }

// holding returns a definition with the statement alone.
func holding(s api.Stmt) api.Def { return api.Def{Body: []api.Stmt{s}} }

func num(v int) api.Expr { return api.Expr{Op: api.ENum, V: v} }

func variable(n int) api.Expr { return api.Expr{Op: api.EVar, N: n} }

// reads fails unless s is read as d.
func reads(t *testing.T, s string, d api.Def) {
	t.Helper()
	if got, at, e := syntax.Parse(s); !same(got, d) || at != 0 || e != api.OK {
		t.Fatalf("%q\nis read as %+v, %d, %d, not as\n%+v", s, got, at, e, d)
	}
}

// prints fails unless the text of d is s.
func prints(t *testing.T, d api.Def, s string) {
	t.Helper()
	if got, e := syntax.Print(d); got != s || e != api.OK {
		t.Fatalf("%+v\nis printed as\n%s, %d, not as\n%s", d, got, e, s)
	}
}

// refuses fails unless reading s ends with e at the offset at.
func refuses(t *testing.T, s string, at int, e api.Errno) {
	t.Helper()
	if d, a, f := syntax.Parse(s); a != at || f != e || !reflect.DeepEqual(d, api.Def{}) {
		t.Fatalf("%q\nends with %d, %d, not with %d, %d (and %+v)", s, a, f, at, e, d)
	}
}

// hasNoText fails unless printing d ends with e.
func hasNoText(t *testing.T, d api.Def, e api.Errno) {
	t.Helper()
	if s, f := syntax.Print(d); s != "" || f != e {
		t.Fatalf("%+v\nis printed as %q, %d, not %d", d, s, f, e)
	}
}

// deepExpr has n operators within each other.
func deepExpr(n int) api.Expr {
	x := num(1)
	for range n {
		x = api.Expr{Op: api.EAdd, A: []api.Expr{num(0), x}}
	}
	return x
}
