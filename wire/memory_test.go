package wire_test

import (
	"cmp"
	"fmt"
	"math"
	"reflect"
	"slices"
	"strings"
	"testing"
	"unsafe"

	"reedmace/api"
	"reedmace/wire"
)

// walk calls f for every value in v, of a slice also in its spare capacity.
func walk(v reflect.Value, f func(v reflect.Value)) {
	f(v)
	switch v.Kind() {
	case reflect.Struct:
		for i := range v.NumField() {
			walk(v.Field(i), f)
		}
	case reflect.Slice:
		for whole, i := v.Slice(0, v.Cap()), 0; i < v.Cap(); i++ {
			walk(whole.Index(i), f)
		}
	}
}

// picture is equal for two values only if everything in their memory is.
func picture(x any) string {
	var b strings.Builder
	walk(reflect.ValueOf(x), func(v reflect.Value) {
		switch v.Kind() {
		case reflect.Int:
			fmt.Fprint(&b, v.Int(), " ")
		case reflect.String:
			fmt.Fprintf(&b, "%q ", v.String())
		case reflect.Slice:
			fmt.Fprintf(&b, "[%d %d] ", v.Len(), v.Cap())
		}
	})
	return b.String()
}

// area is the memory of a slice or of a string.
type area struct{ from, to uintptr }

func areasOf(x any) []area {
	var l []area
	walk(reflect.ValueOf(x), func(v reflect.Value) {
		from, size := uintptr(0), uintptr(0)
		switch v.Kind() {
		case reflect.Slice:
			from, size = v.Pointer(), uintptr(v.Cap())*v.Type().Elem().Size()
		case reflect.String:
			from, size = uintptr(unsafe.Pointer(unsafe.StringData(v.String()))), uintptr(v.Len())
		}
		if size > 0 {
			l = append(l, area{from, from + size})
		}
	})
	return l
}

// wantApart checks that nothing in all the values shares memory.
func wantApart(t *testing.T, name string, values ...any) {
	t.Helper()
	var l []area
	for _, x := range values {
		l = append(l, areasOf(x)...)
	}
	slices.SortFunc(l, func(a, b area) int { return cmp.Compare(a.from, b.from) })
	for i := range l {
		if i > 0 && l[i].from < l[i-1].to {
			t.Errorf("%s: memory is shared", name)
		}
	}
}

// roomy returns a copy of x in which every slice has spare capacity that is
// not empty.
func roomy[T any](x T) T {
	return deepCopy(x, 4)
}

// deepCopy returns a copy of x in which every slice has spare capacity for so
// many elements.
func deepCopy[T any](x T, spare int) T {
	v := reflect.New(reflect.TypeFor[T]()).Elem()
	copyValue(v, reflect.ValueOf(x), spare)
	return v.Interface().(T)
}

func copyValue(to, from reflect.Value, spare int) {
	switch from.Kind() {
	case reflect.Struct:
		for i := range from.NumField() {
			copyValue(to.Field(i), from.Field(i), spare)
		}
	case reflect.Slice:
		n := from.Len()
		if n+spare == 0 {
			return
		}
		l := reflect.MakeSlice(from.Type(), n+spare, n+spare)
		for i := range n + spare {
			if n > 0 {
				copyValue(l.Index(i), from.Index(i%n), spare)
			}
		}
		to.Set(l.Slice(0, n))
	default:
		to.Set(from)
	}
}

// P2: arguments and their spare capacity stay as they are.
func TestMemoryOfArguments(t *testing.T) {
	r := random(9)
	for range 50 {
		a, b := roomy(r.batch(40)), roomy(r.batch(20))
		beforeA, beforeB := picture(a), picture(b)
		wire.Check(a)
		wire.Pack(a)
		wire.Same(a, b)
		wire.Same(b, a)
		wire.Same(a, a)
		bad := a
		bad.Site = 7
		wire.Check(bad)
		wire.Pack(bad)
		wire.Same(bad, b)
		if picture(a) != beforeA || picture(b) != beforeB {
			t.Errorf("%v or %v changes", a, b)
		}
	}
}

// P2: results share no memory with arguments or with each other.
func TestMemoryOfResults(t *testing.T) {
	r := random(10)
	l := []api.Batch{{}, example(), sized(20000)}
	for range 50 {
		l = append(l, r.batch(40))
	}
	for _, b := range l {
		s, e := wire.Pack(b)
		if e != api.OK {
			continue
		}
		again, _ := wire.Pack(b)
		x, _ := wire.Unpack(s)
		y, _ := wire.Unpack(s)
		wantApart(t, "Pack and Unpack", s, again, x, y)
		if s != again || picture(x) != picture(y) {
			t.Errorf("results differ: %q, %q, %v, %v", s, again, x, y)
		}
	}
}

// P1: a panic ends the test, so it is enough to call everything.
func TestNoPanic(t *testing.T) {
	edges := []int{math.MinInt, -1 << 32, -1, 0, 1, 2, 5, 16, 31, 32, 60, 1000, 1001, 1000000, 1000001, 1<<24 - 1, 1 << 24, 1 << 32, math.MaxInt}
	for _, x := range edges {
		for _, y := range edges {
			d := dot(x, y)
			for _, k := range []api.Know{{}, vec(x, y), more(d), {Vec: []int{y}, More: []api.Dot{d, d}}} {
				for _, f := range []boxes{nil, from(x, y), {{Cube: api.Cube{Yes: x, No: y}}}, make(boxes, 50)} {
					for _, b := range []api.Batch{
						{Site: x, Stamp: y, Parts: parts{{Filter: f, Know: k}}},
						{Parts: parts{{Filter: f, Know: k}}},
						{Versions: versions{{Id: "a", Dot: d, Point: api.Point{Tags: y, Num: x}, Body: x, Past: k}}},
						{Gone: []api.Gone{{Id: "\xff", Past: k}}},
						{Gone: []api.Gone{{Id: "a", Past: k}}},
					} {
						s, e := wire.Pack(b)
						if c := wire.Check(b); c != e || e != api.OK && s != "" {
							t.Errorf("Pack(%v) = %q, %v; Check = %v", b, s, e, c)
						}
						wire.Same(b, b)
						wire.Unpack(s)
					}
				}
			}
		}
	}
}

// P1, for strings that are not the encoding of anything.
func TestNoPanicBytes(t *testing.T) {
	r := random(11)
	for range 20000 {
		var b strings.Builder
		for range r.below(90) {
			b.WriteByte([]byte{0, 0, 0, 0, 0, 1, 1, 2, 3, 'a', 255}[r.below(11)])
		}
		for _, s := range []string{b.String(), withSum(b.String())} {
			wire.Sum(s)
			if x, e := wire.Unpack(s); e == api.OK && wire.Check(x) != api.OK {
				t.Errorf("Unpack(%q) = %v", s, x)
			}
		}
	}
}
