package wire_test

import (
	"reflect"
	"slices"
	"testing"

	"reedmace/api"
	"reedmace/wire"
)

// wantSame checks both orders.
func wantSame(t *testing.T, a, b api.Batch, want bool) {
	t.Helper()
	for _, l := range [][2]api.Batch{{a, b}, {b, a}} {
		if is, e := wire.Same(l[0], l[1]); is != want || e != api.OK {
			t.Errorf("Same(%v, %v) = %v, %v, want %v", l[0], l[1], is, e, want)
		}
	}
}

// places returns the numbers, names or lists of a response, so that a test can
// change each of them.
func places(b *api.Batch, kind reflect.Kind) []reflect.Value {
	var l []reflect.Value
	walk(reflect.ValueOf(b).Elem(), func(v reflect.Value) {
		if v.Kind() == kind {
			l = append(l, v)
		}
	})
	return l
}

// P52: the same response, and others.
func TestSame(t *testing.T) {
	r := random(5)
	l := []api.Batch{{}, example(), sized(20000), sized(20001)}
	for range 30 {
		l = append(l, r.batch(20))
	}
	for i, a := range l {
		for j, b := range l {
			wantSame(t, a, deepCopy(b, 0), i == j)
		}
	}
}

// P52: each number and each name counts.
func TestSameFields(t *testing.T) {
	changed := 0
	for _, by := range []int64{-1, 1, 2, 4, 8, 16} {
		for i := range places(new(example()), reflect.Int) {
			b := example()
			v := places(&b, reflect.Int)[i]
			v.SetInt(v.Int() + by)
			if wire.Check(b) == api.OK && !emptyBoxChanged(b) {
				changed++
				wantSame(t, example(), b, false)
			}
		}
	}
	for i := range places(new(example()), reflect.String) {
		for _, id := range []string{"a", "abc", "zz"} {
			b := example()
			places(&b, reflect.String)[i].SetString(id)
			wantSame(t, example(), b, false)
		}
	}
	if changed < 100 {
		t.Errorf("%d numbers are changed", changed)
	}
}

// emptyBoxChanged reports whether b differs from the example in the box that
// has no points.
func emptyBoxChanged(b api.Batch) bool {
	return !reflect.DeepEqual(b.Parts[0].Filter[1], example().Parts[0].Filter[1])
}

// P52: each element and its place counts, except for boxes.
func TestSameElements(t *testing.T) {
	full := example()
	full.Versions = append(full.Versions, api.Version{Id: "c", Dot: dot(0, 1)})
	for i := range places(new(deepCopy(full, 0)), reflect.Slice) {
		for _, change := range []func(v reflect.Value){
			func(v reflect.Value) { v.Set(v.Slice(0, v.Len()-1)) },
			func(v reflect.Value) { v.Set(v.Slice(1, v.Len())) },
			func(v reflect.Value) { v.Set(reflect.Append(v, v.Index(v.Len()-1))) },
			func(v reflect.Value) { reflect.Swapper(v.Interface())(0, v.Len()-1) },
			func(v reflect.Value) { reflect.Swapper(v.Interface())(0, v.Len()/2) },
		} {
			b := deepCopy(full, 0)
			v := places(&b, reflect.Slice)[i]
			if v.Len() == 0 || v.Type() == reflect.TypeFor[boxes]() {
				continue
			}
			change(v)
			if wire.Check(b) == api.OK {
				wantSame(t, full, b, reflect.DeepEqual(full, b))
			}
		}
	}
}

// P52: filters are the same if they have the same points.
func TestSameFilters(t *testing.T) {
	two := boxes{{Cube: api.Cube{Yes: 1}, Spans: []api.Span{{From: 0, To: 32}}}, {Cube: api.Cube{No: 1}, Spans: []api.Span{{From: 0, To: 32}}}}
	groups := [][]boxes{
		{nil, {}, {{}}, {{Cube: api.Cube{Yes: 3, No: 4}}}, make(boxes, 40)},
		{from(0, 32), two, append(from(0, 9), from(8, 32)...), slices.Repeat(from(0, 32), 40)},
		{from(0, 31), append(from(4, 31), from(0, 4)...), append(from(0, 4), from(4, 31)...)},
		{from(0, 4)},
		{two[:1], append(two[:1:1], boxes{{Cube: api.Cube{Yes: 5, No: 2}, Spans: []api.Span{{From: 3, To: 4}}}}...)},
	}
	of := func(f boxes) api.Batch {
		return api.Batch{Parts: parts{{Filter: from(0, 1), Know: vec(1)}, {Filter: f, Know: vec(2)}}}
	}
	for i, l := range groups {
		for j, m := range groups {
			for _, f := range l {
				for _, g := range m {
					wantSame(t, of(f), of(g), i == j)
				}
			}
		}
	}
}

// P52: a part that says nothing is a part, and the same dots in other parts
// are not the same response.
func TestSameParts(t *testing.T) {
	a, b := api.Part{Filter: from(0, 9), Know: vec(1)}, api.Part{Filter: from(9, 20), Know: vec(1)}
	both := api.Part{Filter: from(0, 20), Know: vec(1)}
	l := []parts{nil, {{}}, {{}, {}}, {{Filter: from(0, 9)}}, {{Know: vec(1)}}, {a}, {a, a}, {a, b}, {b, a}, {both}, {a, {}}}
	for i, x := range l {
		for j, y := range l {
			wantSame(t, api.Batch{Parts: x}, api.Batch{Parts: y}, i == j)
		}
	}
	wantSame(t, api.Batch{Parts: parts{}}, api.Batch{Versions: versions{}, Gone: []api.Gone{}}, true)
	none := api.Know{Vec: []int{}, More: []api.Dot{}}
	wantSame(t, api.Batch{Gone: []api.Gone{{Id: "a", Past: none}}}, api.Batch{Gone: []api.Gone{{Id: "a"}}}, true)
}

// P52: the error of a comes ahead of that of b.
func TestSameErrors(t *testing.T) {
	valid := example()
	large := api.Batch{Parts: make(parts, 31)}
	form := api.Batch{Gone: []api.Gone{{}}}
	everyFault(func(b api.Batch, e api.Errno) {
		for _, c := range []struct {
			a, b api.Batch
			e    api.Errno
		}{{b, valid, e}, {valid, b, e}, {b, b, e}, {b, large, e}, {b, form, e}, {large, b, api.ErrLarge}, {form, b, api.ErrForm}} {
			if is, r := wire.Same(c.a, c.b); is || r != c.e {
				t.Errorf("Same(%v, %v) = %v, %v, want %v", c.a, c.b, is, r, c.e)
			}
		}
	})
}
