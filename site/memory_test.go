package site_test

import (
	"cmp"
	"fmt"
	"math"
	"reflect"
	"slices"
	"strings"
	"testing"

	"reedmace/api"
	"reedmace/filter"
	"reedmace/know"
	"reedmace/part"
	"reedmace/shelf"
	"reedmace/site"
)

// walk calls f for every value in v: of a site also what is not exported, and of
// a slice also its spare capacity.
func walk(v reflect.Value, f func(v reflect.Value)) {
	f(v)
	switch v.Kind() {
	case reflect.Pointer:
		if !v.IsNil() {
			walk(v.Elem(), f)
		}
	case reflect.Struct:
		for i := range v.NumField() {
			walk(v.Field(i), f)
		}
	case reflect.Slice:
		for whole, i := v.Slice(0, v.Cap()), 0; i < v.Cap(); i++ {
			walk(whole.Index(i), f)
		}
	}
}

// picture is equal for two values only if everything in their memory is.
func picture(x any) string {
	var b strings.Builder
	walk(reflect.ValueOf(x), func(v reflect.Value) {
		switch v.Kind() {
		case reflect.Int:
			fmt.Fprint(&b, v.Int(), " ")
		case reflect.String:
			fmt.Fprintf(&b, "%q ", v.String())
		case reflect.Slice:
			fmt.Fprintf(&b, "[%d %d] ", v.Len(), v.Cap())
		}
	})
	return b.String()
}

// area is the memory of a slice.
type area struct{ from, to uintptr }

// wantApart checks that no two slices in all the values share memory.
func wantApart(t *testing.T, name string, values ...any) {
	t.Helper()
	var l []area
	for _, x := range values {
		walk(reflect.ValueOf(x), func(v reflect.Value) {
			if v.Kind() == reflect.Slice && v.Cap() > 0 {
				l = append(l, area{v.Pointer(), v.Pointer() + uintptr(v.Cap())*v.Type().Elem().Size()})
			}
		})
	}
	slices.SortFunc(l, func(a, b area) int { return cmp.Compare(a.from, b.from) })
	for i := range l {
		if i > 0 && l[i].from < l[i-1].to {
			t.Errorf("%s: memory is shared", name)
		}
	}
}

// roomy returns a copy of x in which every slice has spare capacity that is
// not empty.
func roomy[T any](x T) T {
	v := reflect.New(reflect.TypeFor[T]()).Elem()
	copyRoomy(v, reflect.ValueOf(x))
	return v.Interface().(T)
}

func copyRoomy(to, from reflect.Value) {
	switch from.Kind() {
	case reflect.Struct:
		for i := range from.NumField() {
			copyRoomy(to.Field(i), from.Field(i))
		}
	case reflect.Slice:
		n := from.Len()
		l := reflect.MakeSlice(from.Type(), n+4, n+4)
		for i := range n + 4 {
			if n > 0 {
				copyRoomy(l.Index(i), from.Index(i%n))
			}
		}
		to.Set(l.Slice(0, n))
	default:
		to.Set(from)
	}
}

// memorySites have much, little and nothing to share.
func memorySites(t *testing.T) []pair {
	s, full := newPair(t, 0, from(0, 9)), crowded(t)
	full.take(t, api.Batch{Site: 1, Stamp: 3, Versions: versions{of("a", dot(4, 1), api.Know{Vec: []int{0, 0, 40}, More: series(0, 2, 2, 50)})}})
	s.make(t, "a", num(1), 1)
	return []pair{newPair(t, 2, nil), s, giver(t), full}
}

// P2: arguments and their spare capacity stay as they are, and nothing that a
// site keeps or returns shares memory with them or with anything else.
func TestMemoryOfArguments(t *testing.T) {
	ask := roomy(api.Ask{Site: 3, Filter: append(from(0, 5), from(9, 30)...), Parts: append(singles(3, 4), api.Part{Filter: from(2, 9), Know: api.Know{Vec: []int{4, 4}, More: series(4, 20, 1, 2)}})})
	for _, f := range someFilters() {
		f = roomy(f)
		before := picture(f)
		s, _ := site.New(2, f)
		again, _ := site.New(2, f)
		wantApart(t, "New", f, s, again)
		s.Make("a", num(1), 1)
		s.Want(f)
		wantApart(t, "Want", f, s, again)
		if picture(f) != before {
			t.Errorf("%v changes", f)
		}
	}
	for _, x := range memorySites(t) {
		made, stamp := x.s.Made()
		b := roomy(api.Batch{
			Site:     x.m.me,
			Stamp:    stamp,
			Versions: versions{of("a", dot(3, 2), vec(0, 0, 50)), of("a", dot(3, 9), api.Know{Vec: []int{0, 0, 50}, More: series(3, 3, 2, 2)}), of("n", dot(4, 20), vec(1))},
			Gone:     []api.Gone{{Id: "a", Past: vec(3)}, {Id: "b", Past: api.Know{Vec: []int{2}, More: series(4, 20, 1, 2)}}},
			Parts:    append(singles(0, 3), api.Part{Filter: append(from(0, 5), from(9, 30)...), Know: api.Know{Vec: []int{4, 4}, More: series(4, 20, 1, 2)}}),
		})
		for range 2 {
			beforeAsk, beforeBatch := picture(ask), picture(b)
			r, e := x.s.Give(ask)
			wantApart(t, "Give", ask, x.s, r)
			if te := x.s.Take(b); e != api.OK || te != api.OK && len(x.s.Parts()) < 29 {
				t.Fatal(e, te)
			}
			wantApart(t, "Take", ask, b, x.s, r)
			if picture(ask) != beforeAsk || picture(b) != beforeBatch {
				t.Errorf("%v or %v changes", ask, b)
			}
		}
		if n, _ := x.s.Made(); n != made {
			t.Errorf("Made changes to %d", n)
		}
	}
}

// P2, P48: results are copies, however often they are asked for, and asking for
// them does not change the site.
func TestMemoryOfResults(t *testing.T) {
	for _, x := range memorySites(t) {
		before := picture(x.s)
		values := []any{x.s}
		for range 2 {
			values = append(values, x.s.Shelf(), x.s.Parts(), x.s.Filter(), x.s.Ask())
			for _, id := range []string{"a", "b", "own", "none"} {
				l, _ := x.s.Read(id)
				values = append(values, l)
			}
			for _, f := range someFilters() {
				b, _ := x.s.Give(api.Ask{Filter: f})
				values = append(values, b)
			}
			b, _ := x.s.Give(x.s.Ask())
			values = append(values, b)
			x.s.Made()
		}
		wantApart(t, "results", values...)
		if picture(x.s) != before {
			t.Error("reading changes a site")
		}
	}
}

// P2: sites have no state in common, also where one gives what another takes.
func TestMemoryOfSites(t *testing.T) {
	a, b, c := newPair(t, 0, filter.Every()), giver(t), newPair(t, 2, from(0, 12))
	for range 3 {
		for _, x := range []pair{a, b, c} {
			x.make(t, "a", num(x.m.made), 1)
		}
		a.take(t, b.give(t, a.s.Ask()))
		c.take(t, a.give(t, c.s.Ask()))
		b.take(t, a.give(t, b.s.Ask()))
		wantApart(t, "sites", a.s, b.s, c.s)
	}
}

// wantValid checks everything that a site returns, and that it takes what it
// gives.
func wantValid(t *testing.T, s *site.Site) {
	t.Helper()
	a := s.Ask()
	b, e := s.Give(api.Ask{Site: a.Site, Stamp: a.Stamp, Filter: filter.Every()})
	for _, c := range []api.Errno{e, shelf.Check(s.Shelf()), part.Check(s.Parts()), filter.Check(s.Filter()), filter.Check(a.Filter), part.Check(a.Parts), part.Check(b.Parts), s.Take(api.Batch{Site: a.Site, Stamp: a.Stamp, Versions: b.Versions, Gone: b.Gone})} {
		if c != api.OK {
			t.Errorf("a site has what is not valid: %v", c)
		}
	}
}

// P1: a panic ends the test, so it is enough to call everything.
func TestNoPanic(t *testing.T) {
	edges := []int{math.MinInt, -1 << 32, -1, 0, 1, 2, 5, 16, 31, 32, 60, 1000, 1001, 1000000, 1 << 32, math.MaxInt}
	for _, x := range edges {
		for _, y := range edges {
			d, p := dot(x, y), api.Point{Tags: y, Num: x}
			s, _ := site.New(x, nil)
			if s == nil {
				s, _ = site.New(1, from(0, 20))
			}
			for _, f := range []boxes{nil, from(x, y), {{Cube: api.Cube{Yes: x, No: y}, Spans: []api.Span{{From: 0, To: 32}}}}, make(boxes, 50)} {
				site.New(x, f)
				for _, k := range []api.Know{{}, {Vec: []int{x, y}}, more(d), {Vec: []int{y}, More: []api.Dot{d, d}}} {
					l := parts{{Filter: f, Know: k}, {Filter: filter.Every(), Know: k}}
					v := api.Version{Id: "a", Dot: d, Point: p, Body: x, Past: k}
					for _, id := range []string{"a", "", "\xff"} {
						s.Make(id, p, y)
						s.Read(id)
						s.Take(api.Batch{Site: x, Stamp: y, Versions: versions{v, of("b", dot(1, 1), k)}, Gone: []api.Gone{{Id: id, Past: k}}, Parts: l})
						s.Take(api.Batch{Site: 1, Versions: versions{of("b", dot(1, 1), k), v}, Gone: []api.Gone{{Id: id, Past: k}}, Parts: l})
					}
					s.Give(api.Ask{Site: x, Stamp: y, Filter: f, Parts: l})
					s.Give(api.Ask{Filter: f, Parts: l})
				}
				wantValid(t, s)
				s.Want(f)
			}
			wantValid(t, s)
		}
	}
}

// P1, for a site that New did not return.
func TestNoPanicZero(t *testing.T) {
	for range 2 {
		var s site.Site
		wantValid(t, &s)
		s.Read("a")
		if d, e := s.Make("a", num(1), 1); know.Dot(d) != (e == api.OK) {
			t.Errorf("Make = %v, %v", d, e)
		}
		s.Want(filter.Every())
		wantValid(t, &s)
	}
}
