package part_test

import (
	"math"
	"slices"
	"testing"

	"reedmace/api"
	"reedmace/filter"
	"reedmace/know"
	"reedmace/part"
)

type (
	boxes = []api.Box
	parts = []api.Part
)

// points and dots are sets of points and of dots, one by one; the row of a
// site has no dot at 0.
type (
	points [16][32]bool
	dots   [5][1001]bool
)

// model is a part, with what it has written out.
type model struct {
	part   api.Part
	points points
	dots   dots
}

func modelOf(x api.Part) model {
	return model{x, pointsOf(x.Filter), dotsOf(x.Know)}
}

func pointsOf(f boxes) points {
	var m points
	for _, b := range f {
		for tags := range m {
			if tags&b.Cube.Yes == b.Cube.Yes && tags&b.Cube.No == 0 {
				for _, s := range b.Spans {
					for n := s.From; n < s.To; n++ {
						m[tags][n] = true
					}
				}
			}
		}
	}
	return m
}

func dotsOf(k api.Know) dots {
	var m dots
	for site, n := range k.Vec {
		for c := 1; c <= n; c++ {
			m[site][c] = true
		}
	}
	for _, d := range k.More {
		m[d.Site][d.Count] = true
	}
	return m
}

func (m *model) empty() bool {
	return m.points == points{} || m.dots == dots{}
}

// implies reports whether m has all points and all dots of x.
func (m *model) implies(x *model) bool {
	for tags := range m.points {
		for n := range m.points[tags] {
			if x.points[tags][n] && !m.points[tags][n] {
				return false
			}
		}
	}
	for site := range m.dots {
		for c := range m.dots[site] {
			if x.dots[site][c] && !m.dots[site][c] {
				return false
			}
		}
	}
	return true
}

// reduced follows P32 word by word.
func reduced(l []*model) parts {
	var kept []*model
	for _, x := range l {
		drop := x.empty()
		for _, y := range kept {
			drop = drop || y.implies(x)
		}
		if drop {
			continue
		}
		var rest []*model
		for _, y := range kept {
			if !x.implies(y) {
				rest = append(rest, y)
			}
		}
		kept = append(rest, x)
	}
	var r parts
	for _, x := range kept {
		r = append(r, x.part)
	}
	return r
}

func modelsOf(l parts) []*model {
	var r []*model
	for _, x := range l {
		m := modelOf(x)
		r = append(r, &m)
	}
	return r
}

// states reports whether some part states that the dot is known for the point.
func states(l []*model, p api.Point, d api.Dot) bool {
	return slices.ContainsFunc(l, func(m *model) bool {
		return m.points[p.Tags][p.Num] && m.dots[d.Site][d.Count]
	})
}

func sameKnow(a, b api.Know) bool {
	return slices.Equal(a.Vec, b.Vec) && slices.Equal(a.More, b.More)
}

// same compares parts by their points and their dots; the boxes may differ.
func same(a, b parts) bool {
	return slices.EqualFunc(a, b, func(x, y api.Part) bool {
		return pointsOf(x.Filter) == pointsOf(y.Filter) && sameKnow(x.Know, y.Know)
	})
}

// wantParts checks a result, of which P13 and P32 leave only the boxes open.
func wantParts(t *testing.T, name string, r parts, e api.Errno, want parts) {
	t.Helper()
	if e != api.OK || part.Check(r) != api.OK || !same(r, want) {
		t.Errorf("%s = %v, %v, want %v", name, r, e, want)
	}
	for _, x := range r {
		if len(x.Filter) > 16 {
			t.Errorf("%s has a filter of %d boxes", name, len(x.Filter))
		}
	}
}

func of(f boxes, k api.Know) api.Part {
	return api.Part{Filter: f, Know: k}
}

func one(yes, no int, l ...api.Span) boxes {
	return boxes{{Cube: api.Cube{Yes: yes, No: no}, Spans: l}}
}

func from(a, b int) boxes {
	return one(0, 0, api.Span{From: a, To: b})
}

// at is the filter of one point.
func at(p api.Point) boxes {
	return one(p.Tags, 15-p.Tags, api.Span{From: p.Num, To: p.Num + 1})
}

// series returns n dots of a site, from a count on, at a distance from each
// other.
func series(site, first, step, n int) []api.Dot {
	var l []api.Dot
	for i := range n {
		l = append(l, api.Dot{Site: site, Count: first + i*step})
	}
	return l
}

func vec(l ...int) api.Know {
	return api.Know{Vec: l}
}

func more(l ...api.Dot) api.Know {
	return api.Know{More: l}
}

// singles are n parts of one point each, none of which implies another one.
func singles(first, n int) parts {
	var l parts
	for i := range n {
		p := api.Point{Tags: (first + i) / 32, Num: (first + i) % 32}
		l = append(l, api.Part{Filter: at(p), Know: vec(1)})
	}
	return l
}

func allPoints() []api.Point {
	var l []api.Point
	for tags := range 16 {
		for n := range 32 {
			l = append(l, api.Point{Tags: tags, Num: n})
		}
	}
	return l
}

// someDots has all dots at which a sample may have a bound.
func someDots() []api.Dot {
	var l []api.Dot
	for site := range 5 {
		l = append(l, series(site, 1, 1, 7)...)
		l = append(l, series(site, 998, 1, 3)...)
	}
	return l
}

// someFilters have the same points, imply each other, overlap, have nothing in
// common or are empty.
func someFilters() []boxes {
	var ragged boxes
	for tags := range 16 {
		ragged = append(ragged, one(tags, 15-tags, api.Span{From: tags, To: 2*tags + 1})...)
	}
	return []boxes{
		nil,
		one(3, 4),
		filter.Every(),
		from(0, 9),
		from(5, 32),
		append(from(0, 6), from(4, 32)...),
		append(one(1, 0, api.Span{From: 0, To: 9}), one(0, 1, api.Span{From: 0, To: 9})...),
		one(1, 0, api.Span{From: 0, To: 32}),
		one(1, 2, api.Span{From: 2, To: 4}, api.Span{From: 6, To: 8}),
		one(0, 1, api.Span{From: 31, To: 32}),
		at(api.Point{}),
		at(api.Point{Tags: 15, Num: 31}),
		ragged,
		slices.Concat(ragged, ragged, from(3, 4), one(2, 1, api.Span{From: 0, To: 5})),
	}
}

// someKnows are sets of dots of which the same can be said.
func someKnows() []api.Know {
	return []api.Know{
		{},
		vec(1),
		vec(3),
		vec(0, 2),
		vec(3, 2),
		vec(0, 0, 0, 0, 5),
		vec(1000, 1000, 1000, 1000, 1000),
		vec(999),
		more(api.Dot{Count: 3}),
		more(api.Dot{Count: 2}, api.Dot{Count: 3}),
		more(api.Dot{Site: 4, Count: 1000}),
		{Vec: []int{1}, More: []api.Dot{{Count: 3}, {Count: 1000}}},
		{Vec: []int{1, 2}, More: []api.Dot{{Count: 3}, {Site: 3, Count: 2}, {Site: 4, Count: 6}}},
	}
}

func someParts() parts {
	var l parts
	for _, f := range someFilters() {
		for _, k := range someKnows() {
			l = append(l, api.Part{Filter: f, Know: k})
		}
	}
	return l
}

// random returns numbers that look random and are the same in every run.
func random(seed uint32) func(n int) int {
	return func(n int) int {
		seed = seed*1664525 + 1013904223
		return int(seed>>8) % n
	}
}

// samples are lists of up to the limit of parts, of which many are empty or
// imply each other.
func samples(n int) []parts {
	next, all := random(5), someParts()
	l := []parts{nil, {}, singles(3, 30), slices.Repeat(singles(3, 1), 30)}
	for range n {
		var x parts
		for range next(9) {
			x = append(x, all[next(len(all))])
		}
		l = append(l, x)
	}
	return l
}

// badList is an invalid list, with its error.
type badList struct {
	l parts
	e api.Errno
}

func badLists() []badList {
	good := api.Part{Filter: from(1, 5), Know: vec(3)}
	withFilter := func(f boxes) api.Part { return api.Part{Filter: f, Know: vec(3)} }
	withKnow := func(k api.Know) api.Part { return api.Part{Filter: from(1, 5), Know: k} }
	argAndForm := api.Part{Filter: one(16, 0), Know: vec(0)}
	return []badList{
		{make(parts, 31), api.ErrLarge},
		{slices.Repeat(parts{good}, 31), api.ErrLarge},
		{slices.Repeat(parts{argAndForm}, 100), api.ErrLarge},

		{parts{withFilter(make(boxes, 41))}, api.ErrLarge},
		{parts{withFilter(one(16, 0))}, api.ErrArg},
		{parts{withFilter(one(1, 1))}, api.ErrForm},
		{parts{withFilter(from(5, 33))}, api.ErrArg},
		{parts{withFilter(from(5, 5))}, api.ErrArg},
		{parts{withFilter(one(0, 0, api.Span{From: 1, To: 3}, api.Span{From: 3, To: 5}))}, api.ErrForm},
		{parts{withFilter(one(0, 0, make([]api.Span, 17)...))}, api.ErrLarge},

		{parts{withKnow(vec(1, 1, 1, 1, 1, 1))}, api.ErrLarge},
		{parts{withKnow(more(series(0, 2, 2, 61)...))}, api.ErrLarge},
		{parts{withKnow(vec(-1))}, api.ErrArg},
		{parts{withKnow(vec(1001))}, api.ErrArg},
		{parts{withKnow(vec(2, 0))}, api.ErrForm},
		{parts{withKnow(more(api.Dot{Site: 5, Count: 2}))}, api.ErrArg},
		{parts{withKnow(more(api.Dot{Count: 1}))}, api.ErrForm},
		{parts{withKnow(more(api.Dot{Count: 3}, api.Dot{Count: 3}))}, api.ErrForm},

		// A part is checked even where the rest of it is empty.
		{parts{{Filter: one(1, 1)}}, api.ErrForm},
		{parts{{Know: vec(0)}}, api.ErrForm},

		// Of one part the filter comes first; of several, the first part.
		{parts{argAndForm}, api.ErrArg},
		{parts{{Filter: one(1, 1), Know: vec(1001)}}, api.ErrForm},
		{parts{{Filter: make(boxes, 41), Know: vec(1001)}}, api.ErrLarge},
		{parts{withKnow(vec(0)), withFilter(one(16, 0))}, api.ErrForm},
		{parts{withFilter(one(16, 0)), withKnow(vec(0))}, api.ErrArg},
		{append(slices.Repeat(parts{good}, 29), withKnow(vec(0))), api.ErrForm},
	}
}

// P30
func TestCheck(t *testing.T) {
	good := append(samples(20), make(parts, 30), parts{{Filter: make(boxes, 40), Know: more(series(0, 2, 2, 60)...)}})
	for _, l := range good {
		if e := part.Check(l); e != api.OK {
			t.Errorf("Check(%v) = %v", l, e)
		}
	}
	for _, b := range badLists() {
		if e := part.Check(b.l); e != b.e {
			t.Errorf("Check(%v) = %v, want %v", b.l, e, b.e)
		}
	}
}

func badFilters() []struct {
	f boxes
	e api.Errno
} {
	return []struct {
		f boxes
		e api.Errno
	}{
		{make(boxes, 41), api.ErrLarge},
		{one(16, 0), api.ErrArg},
		{one(2, 3), api.ErrForm},
		{from(-1, 5), api.ErrArg},
		{one(0, 0, api.Span{From: 5, To: 7}, api.Span{From: 1, To: 3}), api.ErrForm},
	}
}

// P30, P31, P33: the error of Check comes first, of a and then of b, and
// nothing else comes with it.
func TestErrors(t *testing.T) {
	good := singles(0, 3)
	for _, b := range badLists() {
		for _, d := range []api.Dot{{Count: 1}, {}, {Site: 5, Count: 1}} {
			for _, p := range []api.Point{{}, {Tags: 16}} {
				if is, e := part.Has(b.l, p, d); is || e != b.e {
					t.Errorf("Has(%v, %v, %v) = %v, %v, want %v", b.l, p, d, is, e, b.e)
				}
			}
		}
		wantNarrowError(t, b.l, filter.Every(), b.e)
		for _, f := range badFilters() {
			wantNarrowError(t, b.l, f.f, b.e)
		}
		wantErrors(t, b.l, good, b.e)
		wantErrors(t, good, b.l, b.e)
		wantErrors(t, nil, b.l, b.e)
		wantErrors(t, b.l, nil, b.e)
		for _, c := range badLists() {
			wantErrors(t, b.l, c.l, b.e)
		}
	}
}

func wantNarrowError(t *testing.T, l parts, f boxes, want api.Errno) {
	t.Helper()
	if r, e := part.Narrow(l, f); len(r) != 0 || e != want {
		t.Errorf("Narrow(%v, %v) = %v, %v, want %v", l, f, r, e, want)
	}
}

func wantErrors(t *testing.T, a, b parts, want api.Errno) {
	t.Helper()
	if r, e := part.Join(a, b); len(r) != 0 || e != want {
		t.Errorf("Join(%v, %v) = %v, %v, want %v", a, b, r, e, want)
	}
	if is, e := part.Within(a, b); is || e != want {
		t.Errorf("Within(%v, %v) = %v, %v, want %v", a, b, is, e, want)
	}
}

// P31
func TestHas(t *testing.T) {
	for _, l := range samples(12) {
		m := modelsOf(l)
		for _, p := range allPoints() {
			for _, d := range someDots() {
				if is, e := part.Has(l, p, d); is != states(m, p, d) || e != api.OK {
					t.Errorf("Has(%v, %v, %v) = %v, %v", l, p, d, is, e)
				}
			}
		}
	}
}

// P31: no part has both the point and the dot, though one has the point and
// another one has the dot.
func TestHasInOnePart(t *testing.T) {
	l := parts{{Filter: from(0, 9), Know: vec(3)}, {Filter: from(9, 32), Know: vec(0, 3)}}
	for _, c := range []struct {
		n, site int
		want    bool
	}{{8, 0, true}, {9, 0, false}, {8, 1, false}, {9, 1, true}} {
		if is, e := part.Has(l, api.Point{Num: c.n}, api.Dot{Site: c.site, Count: 3}); is != c.want || e != api.OK {
			t.Errorf("Has(%d, %d) = %v, %v", c.n, c.site, is, e)
		}
	}
}

// P31
func TestHasErrors(t *testing.T) {
	badPoints := []api.Point{{Tags: -1}, {Tags: 16}, {Num: -1}, {Num: 32}, {Tags: math.MinInt}, {Num: math.MaxInt}}
	badDots := []api.Dot{{}, {Count: -1}, {Count: 1001}, {Site: -1, Count: 1}, {Site: 5, Count: 1}, {Site: math.MaxInt, Count: math.MinInt}}
	all := parts{{Filter: filter.Every(), Know: vec(1000, 1000, 1000, 1000, 1000)}}
	for _, l := range []parts{nil, all, singles(0, 30)} {
		for _, p := range badPoints {
			for _, d := range append(badDots, api.Dot{Count: 1}) {
				if is, e := part.Has(l, p, d); is || e != api.ErrArg {
					t.Errorf("Has(%v, %v) = %v, %v", p, d, is, e)
				}
			}
		}
		for _, d := range badDots {
			if is, e := part.Has(l, api.Point{}, d); is || e != api.ErrArg {
				t.Errorf("Has(%v) = %v, %v", d, is, e)
			}
		}
	}
}

// P32: two parts, of which one may be empty or imply the other one.
func TestJoinOfTwo(t *testing.T) {
	all := someParts()
	for i, x := range modelsOf(all) {
		for k, y := range modelsOf(all) {
			r, e := part.Join(all[i:i+1], all[k:k+1])
			wantParts(t, "Join", r, e, reduced([]*model{x, y}))
		}
	}
}

// P32
func TestJoin(t *testing.T) {
	all := samples(60)
	for _, a := range all {
		x := modelsOf(a)
		for _, b := range all {
			want := reduced(slices.Concat(x, modelsOf(b)))
			if len(want) > 30 {
				wantLarge(t, a, b)
				continue
			}
			r, e := part.Join(a, b)
			wantParts(t, "Join", r, e, want)
		}
	}
}

func wantLarge(t *testing.T, a, b parts) {
	t.Helper()
	if r, e := part.Join(a, b); len(r) != 0 || e != api.ErrLarge {
		t.Errorf("Join(%v, %v) = %v, %v, want ErrLarge", a, b, r, e)
	}
}

// P32: what is retained, and in which order.
func TestJoinOrder(t *testing.T) {
	low, high, every := from(0, 9), from(5, 32), filter.Every()
	split := append(from(0, 4), from(4, 9)...)
	for _, c := range []struct{ a, b, want parts }{
		// The example: an implied part is dropped, wherever it stands.
		{parts{of(low, vec(3))}, parts{of(low, vec(1))}, parts{of(low, vec(3))}},
		{parts{of(low, vec(1))}, parts{of(low, vec(3))}, parts{of(low, vec(3))}},
		{parts{of(every, vec(3))}, parts{of(low, vec(3))}, parts{of(every, vec(3))}},
		{parts{of(low, vec(3))}, parts{of(every, vec(3))}, parts{of(every, vec(3))}},
		{parts{of(low, vec(3)), of(low, vec(1))}, nil, parts{of(low, vec(3))}},
		{nil, parts{of(low, vec(1)), of(low, vec(3))}, parts{of(low, vec(3))}},
		// More points do not make up for fewer dots.
		{parts{of(low, vec(3))}, parts{of(every, vec(2))}, parts{of(low, vec(3)), of(every, vec(2))}},
		{parts{of(every, vec(2))}, parts{of(low, vec(3))}, parts{of(every, vec(2)), of(low, vec(3))}},
		// A part that implies others comes behind those that are left.
		{parts{of(low, vec(1)), of(high, vec(2))}, parts{of(every, vec(1))}, parts{of(high, vec(2)), of(every, vec(1))}},
		{parts{of(low, vec(1)), of(high, vec(3)), of(low, vec(0, 1))}, parts{of(low, vec(1, 1))}, parts{of(high, vec(3)), of(low, vec(1, 1))}},
		// The same points with the same dots: the first one stays where it is.
		{parts{of(low, vec(1)), of(high, vec(2))}, parts{of(split, vec(1))}, parts{of(low, vec(1)), of(high, vec(2))}},
		// Two parts together imply none.
		{parts{of(from(0, 9), vec(1)), of(from(9, 32), vec(1))}, parts{of(from(8, 10), vec(1))}, parts{of(from(0, 9), vec(1)), of(from(9, 32), vec(1)), of(from(8, 10), vec(1))}},
		// One part implies two.
		{parts{of(low, vec(1)), of(low, vec(0, 1))}, parts{of(low, vec(1, 1))}, parts{of(low, vec(1, 1))}},
		{parts{of(low, vec(1)), of(low, more(api.Dot{Count: 3}))}, parts{of(low, api.Know{Vec: []int{1}, More: []api.Dot{{Count: 3}}})}, parts{of(low, api.Know{Vec: []int{1}, More: []api.Dot{{Count: 3}}})}},
		// Parts without points or without dots state nothing.
		{parts{{}, of(nil, vec(3)), of(one(1, 2), vec(3)), of(low, api.Know{})}, parts{of(high, vec(2)), {}}, parts{of(high, vec(2))}},
		{parts{{}}, parts{of(low, api.Know{})}, nil},
		{nil, nil, nil},
	} {
		r, e := part.Join(c.a, c.b)
		wantParts(t, "Join", r, e, c.want)
	}
}

// P32: what counts is how many parts the result has, not how many there are
// before or on the way.
func TestJoinLarge(t *testing.T) {
	every := parts{{Filter: filter.Every(), Know: vec(1)}}
	row := parts{{Filter: one(0, 15, api.Span{From: 0, To: 32}), Know: vec(1)}}
	for _, c := range []struct{ a, b, want parts }{
		{singles(0, 30), nil, singles(0, 30)},
		{nil, singles(0, 30), singles(0, 30)},
		{singles(0, 15), singles(15, 15), singles(0, 30)},
		{singles(0, 29), singles(100, 1), append(singles(0, 29), singles(100, 1)...)},
		{singles(0, 30), singles(0, 30), singles(0, 30)},
		{singles(0, 30), make(parts, 30), singles(0, 30)},
		{singles(0, 30), every, every},
		{every, singles(0, 30), every},
		{singles(0, 30), append(singles(100, 29), every...), every},
		{singles(5, 30), append(singles(100, 26), row...), append(append(singles(32, 3), singles(100, 26)...), row...)},
		{singles(5, 30), append(singles(100, 27), row...), append(append(singles(32, 3), singles(100, 27)...), row...)},
		{singles(0, 30), singles(30, 1), singles(0, 31)},
		{singles(0, 30), singles(29, 2), singles(0, 31)},
		{singles(0, 15), singles(15, 16), singles(0, 31)},
		{singles(0, 30), singles(30, 30), singles(0, 60)},
	} {
		if len(c.want) > 30 {
			wantLarge(t, c.a, c.b)
			continue
		}
		r, e := part.Join(c.a, c.b)
		wantParts(t, "Join", r, e, c.want)
	}
}

// P13 and P32: a filter of more than 16 boxes comes back with the same points
// and at most 16 boxes, in every part of the result.
func TestNumberOfBoxes(t *testing.T) {
	var l parts
	for tags := range 16 {
		var f boxes
		for n := range 32 {
			f = append(f, at(api.Point{Tags: tags, Num: n})...)
		}
		l = append(l, api.Part{Filter: append(f, one(0, 0, api.Span{From: tags, To: tags + 1})...), Know: vec(5)})
	}
	r, e := part.Join(l, nil)
	wantParts(t, "Join", r, e, l)
	r, e = part.Join(l[:8], l[8:])
	wantParts(t, "Join", r, e, l)
	r, e = part.Narrow(l, filter.Every())
	wantParts(t, "Narrow", r, e, l)
}

// intersect returns the parts with each filter replaced by its points in f.
func intersect(l parts, f boxes) []*model {
	in, r := pointsOf(f), modelsOf(l)
	for _, m := range r {
		m.part.Filter = nil
		for tags := range in {
			for n := range in[tags] {
				m.points[tags][n] = m.points[tags][n] && in[tags][n]
				if m.points[tags][n] {
					m.part.Filter = append(m.part.Filter, at(api.Point{Tags: tags, Num: n})...)
				}
			}
		}
	}
	return r
}

// P33
func TestNarrow(t *testing.T) {
	for _, l := range samples(60) {
		for _, f := range someFilters() {
			r, e := part.Narrow(l, f)
			wantParts(t, "Narrow", r, e, reduced(intersect(l, f)))
		}
	}
}

// P33: parts may be empty or imply each other only after they are narrowed.
func TestNarrowReduces(t *testing.T) {
	low, high, every := from(0, 9), from(5, 32), filter.Every()
	both := from(5, 9)
	for _, c := range []struct {
		l    parts
		f    boxes
		want parts
	}{
		{nil, every, nil},
		{nil, nil, nil},
		{parts{of(low, vec(3))}, nil, nil},
		{parts{of(low, vec(3))}, one(1, 2), nil},
		{parts{of(low, vec(3))}, from(9, 32), nil},
		{parts{of(low, api.Know{}), of(nil, vec(2))}, every, nil},
		{parts{of(low, vec(3))}, high, parts{of(both, vec(3))}},
		{parts{of(low, vec(3)), of(high, vec(2))}, every, parts{of(low, vec(3)), of(high, vec(2))}},
		{parts{of(low, vec(3)), of(high, vec(2))}, low, parts{of(low, vec(3))}},
		{parts{of(low, vec(3)), of(high, vec(2))}, high, parts{of(both, vec(3)), of(high, vec(2))}},
		{parts{of(low, vec(2)), of(high, vec(3))}, low, parts{of(low, vec(2)), of(both, vec(3))}},
		{parts{of(low, vec(2)), of(high, vec(3))}, high, parts{of(high, vec(3))}},
		{parts{of(low, vec(2)), of(high, vec(2))}, both, parts{of(both, vec(2))}},
		{parts{of(low, vec(2)), of(low, vec(1))}, every, parts{of(low, vec(2))}},
		{parts{of(low, vec(2)), of(every, vec(1)), of(high, vec(1, 1))}, high, parts{of(both, vec(2)), of(high, vec(1, 1))}},
		{singles(0, 30), every, singles(0, 30)},
		{singles(0, 30), from(0, 10), singles(0, 10)},
	} {
		r, e := part.Narrow(c.l, c.f)
		wantParts(t, "Narrow", r, e, c.want)
	}
}

// P33: the filter is checked even where there is nothing to narrow.
func TestNarrowErrors(t *testing.T) {
	for _, l := range []parts{nil, {{}}, singles(0, 3), singles(0, 30)} {
		for _, b := range badFilters() {
			wantNarrowError(t, l, b.f, b.e)
		}
	}
}

// P34
func TestWithin(t *testing.T) {
	all := samples(25)
	for _, a := range all {
		x := modelsOf(a)
		for _, b := range all {
			want := isWithin(x, modelsOf(b))
			if is, e := part.Within(a, b); is != want || e != api.OK {
				t.Errorf("Within(%v, %v) = %v, %v", a, b, is, e)
			}
		}
	}
}

func isWithin(a, b []*model) bool {
	for _, p := range allPoints() {
		for _, d := range someDots() {
			if states(a, p, d) && !states(b, p, d) {
				return false
			}
		}
	}
	return true
}

// P34: parts of b may have together what a part of a has.
func TestWithinTogether(t *testing.T) {
	low, high, every := from(0, 9), from(5, 32), filter.Every()
	odd := api.Know{Vec: []int{1}, More: series(0, 3, 2, 60)}
	even := more(series(0, 2, 2, 60)...)
	for _, c := range []struct {
		a, b parts
		want bool
	}{
		{nil, nil, true},
		{nil, parts{of(every, vec(1))}, true},
		{parts{of(every, vec(1))}, nil, false},
		{parts{{}, of(nil, vec(1)), of(every, api.Know{})}, nil, true},
		{parts{of(every, vec(2))}, parts{of(low, vec(3)), of(high, vec(2))}, true},
		{parts{of(every, vec(3))}, parts{of(low, vec(3)), of(high, vec(2))}, false},
		{parts{of(every, vec(2))}, parts{of(low, vec(3)), of(from(10, 32), vec(2))}, false},
		{parts{of(every, vec(2))}, parts{of(one(1, 0, api.Span{To: 32}), vec(2)), of(one(0, 1, api.Span{To: 32}), vec(2))}, true},
		{parts{of(low, vec(1, 1))}, parts{of(low, vec(1)), of(low, vec(0, 1))}, true},
		{parts{of(low, vec(1, 1))}, parts{of(low, vec(1)), of(high, vec(0, 1))}, false},
		{parts{of(from(5, 9), vec(1, 1))}, parts{of(low, vec(1)), of(high, vec(0, 1))}, true},
		{parts{of(low, vec(3))}, parts{of(low, vec(2)), of(low, more(api.Dot{Count: 3}))}, true},
		{parts{of(low, vec(3))}, parts{of(low, vec(1)), of(low, more(api.Dot{Count: 3}))}, false},
		{parts{of(low, vec(1)), of(high, vec(2))}, parts{of(every, vec(1))}, false},
		{parts{of(low, vec(1)), of(high, vec(2))}, parts{of(every, vec(1)), of(from(5, 32), vec(2))}, true},
		// More exceptions than one set can have.
		{parts{of(low, vec(121))}, parts{of(low, odd), of(low, even)}, true},
		{parts{of(low, vec(122))}, parts{of(low, odd), of(low, even)}, false},
		{parts{of(low, vec(121))}, parts{of(low, odd), of(low, more(even.More[1:]...))}, false},
		{parts{of(low, vec(121))}, parts{of(low, odd), of(low, more(even.More[:59]...))}, false},
		{parts{of(low, vec(121))}, parts{of(low, odd), of(from(0, 8), even)}, false},
		{parts{of(low, odd), of(low, even)}, parts{of(low, vec(121))}, true},
		{parts{of(low, odd), of(low, even)}, parts{of(low, vec(120))}, false},
		{singles(0, 30), singles(0, 30), true},
		{singles(0, 30), singles(1, 30), false},
		{singles(1, 30), append(singles(0, 20), singles(20, 10)...), false},
	} {
		if is, e := part.Within(c.a, c.b); is != c.want || e != api.OK {
			t.Errorf("Within(%v, %v) = %v, %v", c.a, c.b, is, e)
		}
	}
}

// P34: wherever they stand, no part has both the point and the dot, though one
// has the point and another one has the dot.
func TestWithinPositions(t *testing.T) {
	a := parts{of(from(0, 9), vec(0, 5))}
	for i := range 30 {
		for _, away := range []int{1, 8, 14, 15, 16, 22} {
			b := make(parts, 30)
			b[i] = of(from(0, 9), vec(1))
			b[(i+away)%30] = of(from(9, 32), vec(0, 5))
			wantWithin(t, a, b, false)
			b[i].Know = vec(1, 5)
			wantWithin(t, a, b, true)
		}
	}
}

// P34, where the two lists differ in one point only.
func TestOnePointApart(t *testing.T) {
	all := parts{{Filter: filter.Every(), Know: vec(0, 7)}}
	for _, p := range allPoints() {
		rest, e := filter.Less(filter.Every(), at(p))
		if e != api.OK {
			t.Fatal(e)
		}
		b := parts{{Filter: rest, Know: vec(0, 7)}}
		wantWithin(t, all, b, false)
		wantWithin(t, b, all, true)
		wantWithin(t, all, append(b, api.Part{Filter: at(p), Know: vec(9, 6)}), false)
		wantWithin(t, all, append(b, api.Part{Filter: at(p), Know: vec(9, 7)}), true)
	}
}

// P34, where the two lists differ in one dot only.
func TestOneDotApart(t *testing.T) {
	counts := []int{1, 2, 3, 59, 60, 61, 500, 998, 999, 1000}
	for site := range 5 {
		for _, c := range counts {
			k := vec(1000, 1000, 1000, 1000, 1000)
			k.Vec[site] = c - 1
			if k.Vec[4] == 0 {
				k.Vec = k.Vec[:4]
			}
			d := api.Dot{Site: site, Count: c}
			only, e := know.Add(api.Know{}, d)
			if e != api.OK {
				t.Fatal(e)
			}
			b := parts{{Filter: filter.Every(), Know: k}}
			for _, p := range []api.Point{{}, {Tags: 6, Num: 17}, {Tags: 15, Num: 31}} {
				a := parts{{Filter: at(p), Know: only}}
				wantWithin(t, a, b, false)
				wantWithin(t, a, append(b, a...), true)
			}
		}
	}
}

func wantWithin(t *testing.T, a, b parts, want bool) {
	t.Helper()
	if is, e := part.Within(a, b); is != want || e != api.OK {
		t.Errorf("Within(%v, %v) = %v, %v", a, b, is, e)
	}
}

// P32 to P34: joining loses no knowledge, and adds none.
func TestJoinKeepsKnowledge(t *testing.T) {
	all := samples(12)
	for _, a := range all[4:] {
		for _, b := range all[4:] {
			r, e := part.Join(a, b)
			if e != api.OK {
				t.Fatal(e)
			}
			wantWithin(t, a, r, true)
			wantWithin(t, b, r, true)
			wantWithin(t, r, slices.Concat(a, b), true)
		}
	}
}

const filler = -7

// visit calls f for every integer of the parts, including spare capacity, and
// for the length of every slice.
func visit(l parts, f func(*int)) {
	visitAll(l, f, func(x *api.Part) {
		visitAll(x.Filter, f, func(b *api.Box) {
			f(&b.Cube.Yes)
			f(&b.Cube.No)
			visitAll(b.Spans, f, func(s *api.Span) {
				f(&s.From)
				f(&s.To)
			})
		})
		visitAll(x.Know.Vec, f, f)
		visitAll(x.Know.More, f, func(d *api.Dot) {
			f(&d.Site)
			f(&d.Count)
		})
	})
}

func visitAll[T any](l []T, f func(*int), each func(*T)) {
	n := len(l)
	f(&n)
	l = l[:cap(l)]
	for i := range l {
		each(&l[i])
	}
}

func integers(l parts) []int {
	var r []int
	visit(l, func(n *int) { r = append(r, *n) })
	return r
}

func overwrite(l parts) {
	visit(l, func(n *int) { *n = filler })
}

// room returns a copy of l with spare capacity, in which x is written.
func room[T any](l []T, x T) []T {
	n := len(l)
	return append(slices.Clone(l), slices.Repeat([]T{x}, 40)...)[:n]
}

// roomy returns a copy of l with spare capacity everywhere.
func roomy(l parts) parts {
	r := room(l, api.Part{})[:len(l)+1]
	for i := range r {
		x := &r[i]
		x.Filter = roomyFilter(x.Filter)
		x.Know.Vec = room(x.Know.Vec, filler)
		x.Know.More = room(x.Know.More, api.Dot{Site: filler, Count: filler})
	}
	return r[:len(l)]
}

func roomyFilter(f boxes) boxes {
	f = room(f, api.Box{})[:len(f)+1]
	for i := range f {
		f[i].Spans = room(f[i].Spans, api.Span{From: filler, To: filler})
	}
	return f[:len(f)-1]
}

// testMemory checks that arguments and their spare capacity stay as they are,
// and that a result keeps its value when arguments and other results are
// overwritten, as do parts of it when others are.
func testMemory(t *testing.T, name string, a, b parts, op func(a, b parts) (parts, api.Errno)) {
	t.Helper()
	x, y := roomy(a), roomy(b)
	beforeX, beforeY := integers(x), integers(y)
	r, _ := op(x, y)
	again, _ := op(x, y)
	want := integers(r)
	overwrite(again)
	if !slices.Equal(integers(x), beforeX) || !slices.Equal(integers(y), beforeY) || !slices.Equal(integers(r), want) {
		t.Errorf("%s(%v, %v) changes or shares memory", name, a, b)
	}
	overwrite(x)
	overwrite(y)
	if !slices.Equal(integers(r), want) {
		t.Errorf("%s(%v, %v) keeps an argument", name, a, b)
	}
	// What is behind the end of a result is written before what is in it.
	for i := cap(r) - 1; i >= 0; i-- {
		kept := integers(r[:i:i])
		overwrite(r[:cap(r)][i : i+1 : i+1])
		if !slices.Equal(integers(r[:i:i]), kept) {
			t.Errorf("%s(%v, %v): part %d shares memory with an earlier one", name, a, b, i)
		}
	}
}

// memoryLists have parts that are dropped, also behind others, filters and
// sets that stand twice, and filters of more than 16 boxes.
func memoryLists() []parts {
	low, high := from(0, 9), from(5, 32)
	k := api.Know{Vec: []int{2}, More: []api.Dot{{Count: 4}, {Site: 1, Count: 3}}}
	l := []parts{
		{of(low, k), of(high, k), of(low, vec(0, 2))},
		{of(low, vec(1)), of(at(api.Point{Tags: 9}), k), of(from(2, 7), vec(1)), of(filter.Every(), vec(1))},
		{{}, of(slices.Repeat(low, 40), k), of(low, api.Know{})},
		singles(0, 30),
	}
	return append(samples(12), l...)
}

// P2
func TestMemory(t *testing.T) {
	for _, a := range memoryLists() {
		for _, b := range memoryLists() {
			testMemory(t, "Join", a, b, part.Join)
		}
		for _, f := range someFilters() {
			testMemory(t, "Narrow", a, parts{{Filter: f}}, func(a, b parts) (parts, api.Errno) {
				return part.Narrow(a, b[0].Filter)
			})
		}
	}
}

// P2, for one list as both arguments, and for the functions that return no
// list.
func TestMemoryOfOthers(t *testing.T) {
	for _, l := range memoryLists() {
		x := roomy(l)
		before := integers(x)
		r, e := part.Join(x, x)
		wantParts(t, "Join", r, e, reduced(modelsOf(l)))
		overwrite(r)
		part.Check(x)
		part.Has(x, api.Point{Tags: 3, Num: 4}, api.Dot{Count: 2})
		part.Within(x, x)
		if !slices.Equal(integers(x), before) {
			t.Errorf("a function changes %v", l)
		}
	}
}

// P1: a panic ends the test, so it is enough to call everything. Whatever the
// arguments, a result is valid.
func TestNoPanic(t *testing.T) {
	wantValid := func(l parts, _ api.Errno) {
		t.Helper()
		if e := part.Check(l); e != api.OK {
			t.Errorf("a result is %v: %v", l, e)
		}
	}
	edges := []int{math.MinInt, -1 << 32, -1, 0, 1, 2, 5, 15, 16, 31, 32, 33, 1000, 1001, 1 << 32, math.MaxInt}
	for _, x := range edges {
		for _, y := range edges {
			p, d := api.Point{Tags: x, Num: y}, api.Dot{Site: x, Count: y}
			for _, f := range []boxes{one(x, y), from(x, y), one(x, y, api.Span{From: y, To: x})} {
				for _, k := range []api.Know{vec(x, y), more(d), {Vec: []int{y}, More: []api.Dot{d}}} {
					l := parts{of(f, k), of(filter.Every(), k), of(f, vec(1))}
					part.Check(l)
					for i := range l {
						for _, a := range []parts{nil, l, l[i : i+1], singles(0, 3)} {
							part.Has(a, p, d)
							part.Within(a, l[i:])
							wantValid(part.Join(a, l[i:]))
							wantValid(part.Narrow(a, f))
						}
					}
				}
			}
		}
	}
}
