package encode_test

import (
	"math"
	"slices"
	"testing"

	"parole/api"
)

// replaced returns bytes of words with another one at a place.
func replaced(l []int, at, v int) []byte {
	l = slices.Clone(l)
	l[at] = v
	return bytesOf(l)
}

// eachWord changes every word in turn: numbers can be any, letters are bytes, marks are what they are, and lengths are not negative.
func eachWord[T any](t *testing.T, f form[T], x T) {
	t.Helper()
	l := wordsOf(x)
	for i, w := range modelWords(x) {
		for _, v := range []int{-1, -w.v, w.v + 1, w.v - 1, 0, 1, 2, 255, 256, 97, math.MinInt, math.MaxInt, w.v + 1<<32, w.v + 1<<8, w.v | math.MinInt, math.MinInt + 1} {
			b := replaced(l, i, v)
			right := v == w.v || w.what == aNumber || w.what == aLetter && 0 <= v && v <= 255
			switch y, ok := modelRead[T](b); {
			case ok:
				reads(t, f, b, y)
			case right:
				t.Errorf("word %d of %+v cannot be %d", i, x, v)
			default:
				refuses(t, f, b, api.ErrForm)
			}
			if w.what == aLength && v < 0 || w.what == aMark && v != w.v {
				refuses(t, f, b, api.ErrForm)
			}
		}
	}
}

// P7.1, G2.
func TestEachWord(t *testing.T) {
	m := newMaker(21)
	eachWord(t, defs(), api.Def{})
	eachWord(t, programs(), api.Program{})
	eachWord(t, defs(), numbered[api.Def](500))
	for range 8 {
		eachWord(t, defs(), made[api.Def](m, 2))
		eachWord(t, programs(), made[api.Program](m, 2))
	}
}

// P7.1, G2: a definition is no program, and the other way round; in a program, definitions have their mark.
func TestMarks(t *testing.T) {
	m := newMaker(22)
	for range 50 {
		d, p := made[api.Def](m, 2), made[api.Program](m, 2)
		b, c := written(t, defs(), d), written(t, programs(), p)
		refuses(t, programs(), b, api.ErrForm)
		refuses(t, defs(), c, api.ErrForm)
		p.Defs = append(p.Defs, d)
		l := wordsOf(p)
		at := len(l) - len(p.Threads) - 1 - len(wordsOf(d))
		for _, v := range []int{0, 2, 3, -1, 257, 1<<32 + 1} {
			refuses(t, programs(), replaced(l, at, v), api.ErrForm)
		}
		reads(t, programs(), replaced(l, at, 1), p)
	}
	for _, v := range []int{0, 2, -1, 257, 1 << 56, 1<<32 + 1} {
		refuses(t, defs(), replaced(wordsOf(api.Def{}), 0, v), api.ErrForm)
	}
	for _, v := range []int{0, 1, -2, 258, 2 << 56, 1<<32 + 2} {
		refuses(t, programs(), replaced(wordsOf(api.Program{}), 0, v), api.ErrForm)
	}
}

// P7.1, G2: nothing, and what has no whole words.
func TestNoWords(t *testing.T) {
	for _, b := range [][]byte{nil, {}, {1}, {2}, {1, 0, 0, 0, 0, 0, 0}, {2, 0, 0, 0, 0, 0, 0, 0, 0}, make([]byte, 7), make([]byte, 103), make([]byte, 104), []byte("def f() {}")} {
		refuses(t, defs(), b, api.ErrForm)
		refuses(t, programs(), b, api.ErrForm)
	}
	b := written(t, defs(), api.Def{Id: 5})
	for at := range b { // a byte more somewhere
		refuses(t, defs(), slices.Insert(slices.Clone(b), at, 0), api.ErrForm)
	}
}

// P7.1, G2: names are any bytes, but bytes.
func TestLetters(t *testing.T) {
	l := wordsOf(api.Def{Name: "a"})
	for v := range 256 {
		reads(t, defs(), replaced(l, 4, v), api.Def{Name: string([]byte{byte(v)})})
	}
	for _, v := range []int{-1, 256, 257, 511, 0x20AC, 1 << 32, 97 + 1<<32, 97 - 256, math.MinInt, math.MaxInt} {
		refuses(t, defs(), replaced(l, 4, v), api.ErrForm)
	}
	reads(t, defs(), bytesOf([]int{1, 0, 0, 2, 0xC3, 0xA9, 0, 0, 0, 0, 0, 0, 0, 0, 0}), api.Def{Name: "é"})
}
