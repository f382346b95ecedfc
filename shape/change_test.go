package shape_test

import "reflect"

// places collects all that can be changed in a value: numbers, strings and lists.
func places(v reflect.Value) []reflect.Value {
	switch v.Kind() {
	case reflect.Struct:
		var l []reflect.Value
		for i := range v.NumField() {
			l = append(l, places(v.Field(i))...)
		}
		return l
	case reflect.Slice:
		l := []reflect.Value{v}
		for i := range v.Len() {
			l = append(l, places(v.Index(i))...)
		}
		return l
	}
	return []reflect.Value{v}
}

func numbersIn(v reflect.Value) []reflect.Value {
	var l []reflect.Value
	for _, p := range places(v) {
		if p.Kind() == reflect.Int {
			l = append(l, p)
		}
	}
	return l
}

// changed returns a copy of x with one change, at any place.
func changed[T any](m maker, x T) T {
	out := tidy(x)
	l := places(reflect.ValueOf(&out).Elem())
	p := l[m.r.Intn(len(l))]
	for p.Kind() == reflect.Slice && m.r.Intn(2) == 0 { // there are more lists than there are interesting changes of them
		p = l[m.r.Intn(len(l))]
	}
	switch p.Kind() {
	case reflect.Int:
		n := int(p.Int())
		other := int(pick(m, numbersIn(reflect.ValueOf(&out).Elem())).Int())
		p.SetInt(int64(pick(m, []int{n - 1, n + 1, -n, 0, -1, 1, other, other, 1 << 30, 1<<30 + 1, 1 << 31, -1 << 31, -1<<31 - 1, 1<<32 + n, -1 << 63, 1<<63 - 1})))
	case reflect.String:
		s := p.String()
		at := m.r.Intn(len(s))
		p.SetString(s[:at] + pick(m, []string{"", "_", "9", "a", "Z", " ", "-", "é", "\x00", "abcdefghijk"}) + s[at+m.r.Intn(2):])
	case reflect.Slice:
		changeList(m, p)
	}
	return out
}

// changeList drops an element, puts one in twice, swaps two, or adds an empty one.
func changeList(m maker, p reflect.Value) {
	n := p.Len()
	empty := reflect.Zero(p.Type().Elem())
	switch k := m.r.Intn(4); {
	case n == 0 || k == 0:
		p.Set(reflect.Append(p, empty))
	case k == 1:
		at := m.r.Intn(n)
		p.Set(reflect.AppendSlice(p.Slice3(0, at, at), p.Slice(at+1, n)))
	case k == 2:
		p.Set(reflect.Append(p.Slice3(0, n, n), p.Index(m.r.Intn(n))))
	case k == 3:
		reflect.Swapper(p.Interface())(m.r.Intn(n), m.r.Intn(n))
	}
}
