package encode_test

import (
	"math"
	"math/rand"
	"reflect"
	"testing"

	"parole/api"
	"parole/encode"
)

const (
	maxWords = 100000
	maxBytes = 8 * maxWords
)

// A form is one of the two pairs of functions.
type form[T any] struct {
	write func(T) ([]byte, api.Errno)
	read  func([]byte) (T, api.Errno)
}

func defs() form[api.Def] { return form[api.Def]{encode.Def, encode.ReadDef} }

func programs() form[api.Program] { return form[api.Program]{encode.Program, encode.ReadProgram} }

// written returns the bytes of what is not too big.
func written[T any](t *testing.T, f form[T], x T) []byte {
	t.Helper()
	b, e := f.write(x)
	if e != api.OK {
		t.Fatalf("%+v is refused: %d", x, e)
	}
	return b
}

func reads[T any](t *testing.T, f form[T], b []byte, want T) {
	t.Helper()
	if x, e := f.read(b); e != api.OK || !same(x, want) {
		t.Errorf("%d bytes are read as %+v, %d, not as %+v", len(b), x, e, want)
	}
}

func refuses[T any](t *testing.T, f form[T], b []byte, want api.Errno) {
	t.Helper()
	var none T
	if x, e := f.read(b); e != want || !reflect.DeepEqual(x, none) {
		t.Errorf("%d bytes are read: %d, not %d, with %+v", len(b), e, want, x)
	}
}

func num(v int) api.Expr { return api.Expr{Op: api.ENum, V: v} }

// numbered returns a value whose numbers are all different, from n on, and whose lists have an element or two each.
func numbered[T any](n int) T {
	var x T
	number(reflect.ValueOf(&x).Elem(), &n, 2)
	return x
}

func number(v reflect.Value, n *int, depth int) {
	switch v.Kind() {
	case reflect.Int:
		v.SetInt(int64(*n))
		*n++
	case reflect.String:
		v.SetString("ab")
	case reflect.Slice:
		if depth == 0 {
			return
		}
		v.Set(reflect.MakeSlice(v.Type(), 1+*n%2, 2))
		for i := range v.Len() {
			number(v.Index(i), n, depth-1)
		}
	case reflect.Struct:
		for i := range v.NumField() {
			number(v.Field(i), n, depth)
		}
	}
}

// A maker makes the same values whenever the tests run; they need not be right.
type maker struct{ r *rand.Rand }

func newMaker(seed int64) maker { return maker{rand.New(rand.NewSource(seed))} }

func pick[T any](m maker, l ...T) T { return l[m.r.Intn(len(l))] }

func (m maker) number() int {
	return pick(m, 0, 1, 2, 3, 5, -1, -2, 255, 256, api.MinInt, api.MaxInt, api.NoGap, 1<<32+1, math.MinInt, math.MaxInt, int(m.r.Uint64()))
}

func (m maker) text() string {
	b := make([]byte, m.r.Intn(5))
	for i := range b {
		b[i] = pick(m, 'a', '_', 0, 127, 128, 255, byte(m.r.Intn(256)))
	}
	return string(b)
}

// made returns any value; statements, expressions and conditions have operands in about so many levels.
func made[T any](m maker, depth int) T {
	var x T
	m.fill(reflect.ValueOf(&x).Elem(), depth)
	return x
}

func (m maker) fill(v reflect.Value, depth int) {
	switch v.Kind() {
	case reflect.Int:
		v.SetInt(int64(m.number()))
	case reflect.String:
		v.SetString(m.text())
	case reflect.Slice:
		n := m.r.Intn(3)
		if depth <= 0 || n == 0 {
			if m.r.Intn(2) == 0 {
				v.Set(reflect.MakeSlice(v.Type(), 0, 0))
			}
			return
		}
		v.Set(reflect.MakeSlice(v.Type(), n, n))
		for i := range n {
			m.fill(v.Index(i), depth-1)
		}
	case reflect.Struct:
		for i := range v.NumField() {
			m.fill(v.Field(i), depth)
		}
	}
}

// def returns a definition with n statements, which are all different.
func (m maker) def(n int) api.Def {
	d := made[api.Def](m, 2)
	d.Body = nil
	for i := range n {
		s := made[api.Stmt](m, 3)
		s.Site = i + 1
		d.Body = append(d.Body, s)
	}
	return d
}

// changed returns bytes with a change, of a word, a byte, or the length.
func changed(m maker, b []byte) []byte {
	out := append([]byte(nil), b...)
	at := 8 * m.r.Intn(len(b)/8)
	switch m.r.Intn(5) {
	case 0: // another word
		copy(out[at:], bytesOf([]int{m.number()}))
	case 1: // one more, or one less
		out[at] += pick[byte](m, 1, 255)
	case 2: // another byte
		out[at+m.r.Intn(8)] ^= 1 << m.r.Intn(8)
	case 3: // a word less, or the second half of one and the first one of the next
		at += pick(m, 0, 0, 4)
		out = append(out[:at], out[min(at+8, len(out)):]...)
	case 4: // a word more
		out = append(append(out[:at], bytesOf([]int{m.number()})...), b[at:]...)
	}
	return out
}

// tidy returns a copy of x with memory of its own, in which all lists without elements are nil.
func tidy[T any](x T) T {
	var out T
	copyInto(reflect.ValueOf(&out).Elem(), reflect.ValueOf(x))
	return out
}

func copyInto(to, from reflect.Value) {
	switch from.Kind() {
	case reflect.Struct:
		for i := range from.NumField() {
			copyInto(to.Field(i), from.Field(i))
		}
	case reflect.Slice:
		if n := from.Len(); n > 0 {
			to.Set(reflect.MakeSlice(from.Type(), n, n))
			for i := range n {
				copyInto(to.Index(i), from.Index(i))
			}
		}
	default:
		to.Set(from)
	}
}

func same[T any](a, b T) bool { return reflect.DeepEqual(tidy(a), tidy(b)) }
