package encode_test

import (
	"encoding/binary"
	"reflect"
	"strconv"
	"strings"
)

// order is the list of words of the chapter, by the types; numbers stand for themselves.
var order = map[string]string{
	"Expr":    "Op N V A",
	"Cond":    "Op A C",
	"Stmt":    "Site Op N M V X Y C Args Ptrs Body Else",
	"Range":   "Lo Hi Mask",
	"Array":   "Len Of",
	"Def":     "1 Id Site Name Firm Part Params Given Vars Refs Arrays Budget Body",
	"Program": "2 D Heads Defs Threads",
	"Decl":    "Globals Classes Queues Sinks Locks Parts Firms",
	"Queue":   "Cap R",
	"Head":    "Id Firm Part Params Given",
}

// What words are.
const (
	aNumber = iota
	aMark
	aLength
	aLetter
)

type word struct{ v, what int }

// modelWords returns the words of a value, and what they are.
func modelWords(x any) []word { return appendWords(nil, reflect.ValueOf(x)) }

func appendWords(l []word, v reflect.Value) []word {
	switch v.Kind() {
	case reflect.Int:
		return append(l, word{int(v.Int()), aNumber})
	case reflect.String:
		l = append(l, word{v.Len(), aLength})
		for _, b := range []byte(v.String()) {
			l = append(l, word{int(b), aLetter})
		}
		return l
	case reflect.Slice:
		l = append(l, word{v.Len(), aLength})
		for i := range v.Len() {
			l = appendWords(l, v.Index(i))
		}
		return l
	}
	for _, name := range strings.Fields(order[v.Type().Name()]) {
		if mark, err := strconv.Atoi(name); err == nil {
			l = append(l, word{mark, aMark})
		} else {
			l = appendWords(l, v.FieldByName(name))
		}
	}
	return l
}

func values(l []word) []int {
	out := make([]int, len(l))
	for i, w := range l {
		out[i] = w.v
	}
	return out
}

func wordsOf(x any) []int { return values(modelWords(x)) }

func bytesOf(l []int) []byte {
	b := []byte{}
	for _, w := range l {
		b = binary.LittleEndian.AppendUint64(b, uint64(w))
	}
	return b
}

// modelRead returns the value with these bytes, if there is one.
func modelRead[T any](b []byte) (T, bool) {
	var x, none T
	if len(b)%8 != 0 {
		return none, false
	}
	var l []int
	for ; len(b) > 0; b = b[8:] {
		l = append(l, int(binary.LittleEndian.Uint64(b)))
	}
	if rest, ok := take(l, reflect.ValueOf(&x).Elem()); !ok || len(rest) > 0 {
		return none, false
	}
	return x, true
}

// take reads v from the beginning of l, and returns what is left.
func take(l []int, v reflect.Value) ([]int, bool) {
	if v.Kind() == reflect.Struct {
		return takeFields(l, v)
	}
	if len(l) == 0 {
		return nil, false
	}
	first, l := l[0], l[1:]
	if v.Kind() == reflect.Int {
		v.SetInt(int64(first))
		return l, true
	}
	if first < 0 || first > len(l) {
		return nil, false
	}
	if v.Kind() == reflect.String {
		for _, w := range l[:first] {
			if w < 0 || w > 255 {
				return nil, false
			}
			v.SetString(v.String() + string([]byte{byte(w)}))
		}
		return l[first:], true
	}
	for range first {
		element, ok := reflect.New(v.Type().Elem()).Elem(), false
		if l, ok = take(l, element); !ok {
			return nil, false
		}
		v.Set(reflect.Append(v, element))
	}
	return l, true
}

func takeFields(l []int, v reflect.Value) ([]int, bool) {
	for _, name := range strings.Fields(order[v.Type().Name()]) {
		if mark, err := strconv.Atoi(name); err == nil {
			if len(l) == 0 || l[0] != mark {
				return nil, false
			}
			l = l[1:]
			continue
		}
		ok := false
		if l, ok = take(l, v.FieldByName(name)); !ok {
			return nil, false
		}
	}
	return l, true
}
