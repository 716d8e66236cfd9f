package site_test

import (
	"math"
	"slices"
	"testing"

	"reedmace/api"
	"reedmace/filter"
	"reedmace/part"
	"reedmace/shelf"
	"reedmace/site"
)

func dot(site, count int) api.Dot {
	return api.Dot{Site: site, Count: count}
}

func vec(l ...int) api.Know {
	return api.Know{Vec: l}
}

func more(l ...api.Dot) api.Know {
	return api.Know{More: l}
}

func num(n int) api.Point {
	return api.Point{Num: n}
}

// of is a version whose number and body are its count.
func of(id string, d api.Dot, past api.Know) api.Version {
	return api.Version{Id: id, Dot: d, Point: num(d.Count % 32), Body: d.Count, Past: past}
}

// at is the filter of one point.
func at(p api.Point) boxes {
	return boxes{{Cube: api.Cube{Yes: p.Tags, No: 15 - p.Tags}, Spans: []api.Span{{From: p.Num, To: p.Num + 1}}}}
}

// from is the filter of the numbers from a to ahead of b.
func from(a, b int) boxes {
	return boxes{{Spans: []api.Span{{From: a, To: b}}}}
}

// series returns n dots of a site, from a count on, at a distance from each
// other.
func series(site, first, step, n int) []api.Dot {
	var l []api.Dot
	for i := range n {
		l = append(l, dot(site, first+i*step))
	}
	return l
}

// row has a version of an object for each dot, none of which knows another one.
func row(id string, l ...api.Dot) versions {
	var r versions
	for _, d := range l {
		r = append(r, of(id, d, api.Know{}))
	}
	return r
}

// singles are n parts of one point each, none of which implies another one.
func singles(first, n int) parts {
	var l parts
	for i := range n {
		p := api.Point{Tags: (first + i) / 32, Num: (first + i) % 32}
		l = append(l, api.Part{Filter: at(p), Know: vec(1)})
	}
	return l
}

// someFilters have one and many boxes, overlap, have nothing in common or are
// empty.
func someFilters() []boxes {
	var ragged boxes
	for tags := range 16 {
		ragged = append(ragged, boxes{{Cube: api.Cube{Yes: tags, No: 15 - tags}, Spans: []api.Span{{From: tags, To: 2*tags + 1}}}}...)
	}
	return []boxes{
		nil,
		{{Cube: api.Cube{Yes: 1}}},
		filter.Every(),
		from(0, 9),
		from(5, 32),
		append(from(0, 6), from(4, 32)...),
		{{Cube: api.Cube{Yes: 1}, Spans: []api.Span{{From: 0, To: 32}}}},
		{{Cube: api.Cube{Yes: 1, No: 2}, Spans: []api.Span{{From: 2, To: 4}, {From: 6, To: 20}}}},
		at(api.Point{Tags: 15, Num: 31}),
		ragged,
		slices.Concat(ragged, ragged, slices.Repeat(from(3, 4), 8)),
	}
}

func badFilters() []struct {
	f boxes
	e api.Errno
} {
	return []struct {
		f boxes
		e api.Errno
	}{
		{slices.Repeat(from(0, 1), 41), api.ErrLarge},
		{make(boxes, 41), api.ErrLarge},
		{boxes{{Cube: api.Cube{Yes: 16}}}, api.ErrArg},
		{boxes{{Cube: api.Cube{No: -1}}}, api.ErrArg},
		{boxes{{Cube: api.Cube{Yes: 3, No: 2}}}, api.ErrForm},
		{from(0, 33), api.ErrArg},
		{from(-1, 3), api.ErrArg},
		{from(4, 4), api.ErrArg},
		{boxes{{Spans: []api.Span{{From: 3, To: 5}, {From: 5, To: 7}}}}, api.ErrForm},
		{boxes{{Spans: make([]api.Span, 17)}}, api.ErrLarge},
		{append(from(0, 32), from(0, 33)...), api.ErrArg},
	}
}

func badKnows() []struct {
	k api.Know
	e api.Errno
} {
	return []struct {
		k api.Know
		e api.Errno
	}{
		{vec(1, 1, 1, 1, 1, 1), api.ErrLarge},
		{more(series(0, 2, 2, 61)...), api.ErrLarge},
		{vec(1001), api.ErrArg},
		{vec(2, 0), api.ErrForm},
		{more(dot(5, 2)), api.ErrArg},
		{more(dot(0, 1)), api.ErrForm},
	}
}

// badParts has each list of parts with the error of part.Check.
func badParts() []struct {
	l parts
	e api.Errno
} {
	type row = struct {
		l parts
		e api.Errno
	}
	good := api.Part{Filter: from(0, 4), Know: vec(3)}
	r := []row{
		{slices.Repeat(parts{good}, 31), api.ErrLarge},
		{make(parts, 31), api.ErrLarge},
	}
	for _, b := range badFilters() {
		r = append(r, row{parts{good, {Filter: b.f, Know: vec(0)}}, b.e})
	}
	for _, b := range badKnows() {
		r = append(r, row{parts{good, {Filter: from(0, 4), Know: b.k}, {Filter: from(0, 33)}}, b.e})
	}
	return r
}

func badIds() []string {
	return []string{"", "A", "aaaaaaaaa", "a b", "a1", "\xff", "{", "`"}
}

func badPoints() []api.Point {
	return []api.Point{{Tags: -1}, {Tags: 16}, {Num: -1}, {Num: 32}, {Tags: math.MinInt}, {Num: math.MaxInt}}
}

func outside(limit int) []int {
	return []int{-1, limit, math.MinInt, math.MaxInt}
}

func sameKnow(a, b api.Know) bool {
	return slices.Equal(a.Vec, b.Vec) && slices.Equal(a.More, b.More)
}

func sameVersions(a, b versions) bool {
	return slices.EqualFunc(a, b, func(x, y api.Version) bool {
		return x.Id == y.Id && x.Dot == y.Dot && x.Point == y.Point && x.Body == y.Body && sameKnow(x.Past, y.Past)
	})
}

func sameGone(a, b []api.Gone) bool {
	return slices.EqualFunc(a, b, func(x, y api.Gone) bool { return x.Id == y.Id && sameKnow(x.Past, y.Past) })
}

// wantFilter checks a filter that is returned, of which P13 leaves the boxes
// open but not their number.
func wantFilter(t *testing.T, name string, f boxes, want points) {
	t.Helper()
	if filter.Check(f) != api.OK || len(f) > 16 || pointsOf(f) != want {
		t.Errorf("%s: filter %v, want %v", name, f, want)
	}
}

func wantFacts(t *testing.T, name string, l parts, want []fact) {
	t.Helper()
	if part.Check(l) != api.OK || !slices.Equal(factsOf(l), want) {
		t.Errorf("%s: %d parts %v, want %d", name, len(l), l, len(want))
		return
	}
	for i, x := range l {
		wantFilter(t, name, x.Filter, want[i].points)
	}
}

func wantVersions(t *testing.T, name string, l, want versions) {
	t.Helper()
	if !sameVersions(l, want) {
		t.Errorf("%s: versions %v, want %v", name, l, want)
	}
}

// wantState checks everything that can be seen of a site.
func wantState(t *testing.T, name string, s *site.Site, m *model) {
	t.Helper()
	if made, stamp := s.Made(); made != m.made || stamp != m.stamp {
		t.Errorf("%s: Made = %d, %d, want %d, %d", name, made, stamp, m.made, m.stamp)
	}
	facts := m.knowledge()
	wantVersions(t, name, s.Shelf(), m.store)
	wantFacts(t, name, s.Parts(), facts)
	wantFilter(t, name, s.Filter(), m.wants)
	a := s.Ask()
	if a.Site != m.me || a.Stamp != m.stamp {
		t.Errorf("%s: Ask is of %d, %d, want %d, %d", name, a.Site, a.Stamp, m.me, m.stamp)
	}
	wantFacts(t, name, a.Parts, facts)
	wantFilter(t, name, a.Filter, m.wants)
	if e := shelf.Check(s.Shelf()); e != api.OK {
		t.Errorf("%s: the store is not valid: %v", name, e)
	}
}

func wantAnswer(t *testing.T, name string, b api.Batch, e api.Errno, a api.Ask, want answer) {
	t.Helper()
	if e != api.OK || b.Site != a.Site || b.Stamp != a.Stamp {
		t.Errorf("%s = %v, %v, want one for %d, %d", name, b, e, a.Site, a.Stamp)
	}
	wantVersions(t, name, b.Versions, want.versions)
	if !sameGone(b.Gone, want.gone) {
		t.Errorf("%s: gone is %v, want %v", name, b.Gone, want.gone)
	}
	wantFacts(t, name, b.Parts, want.facts)
}

// pair is a site with its model.
type pair struct {
	s *site.Site
	m *model
}

func newPair(t *testing.T, me int, f boxes) pair {
	t.Helper()
	s, e := site.New(me, f)
	if e != api.OK || s == nil {
		t.Fatalf("New(%d, %v) = %v, %v", me, f, s, e)
	}
	return pair{s, &model{me: me, wants: pointsOf(f)}}
}

// The methods of a pair do the same in the site and in the model.

func (x pair) make(t *testing.T, id string, p api.Point, body int) api.Errno {
	t.Helper()
	d, e := x.s.Make(id, p, body)
	if want, we := x.m.make(id, p, body); d != want || e != we {
		t.Errorf("Make(%q, %v, %d) = %v, %v, want %v, %v", id, p, body, d, e, want, we)
	}
	wantState(t, "Make", x.s, x.m)
	return e
}

func (x pair) want(t *testing.T, f boxes) {
	t.Helper()
	if e := x.s.Want(f); e != api.OK {
		t.Errorf("Want(%v) = %v", f, e)
	}
	x.m.want(pointsOf(f))
	wantState(t, "Want", x.s, x.m)
}

func (x pair) give(t *testing.T, a api.Ask) api.Batch {
	t.Helper()
	b, e := x.s.Give(a)
	wantAnswer(t, "Give", b, e, a, x.m.give(a))
	wantState(t, "Give", x.s, x.m)
	return b
}

func (x pair) take(t *testing.T, b api.Batch) api.Errno {
	t.Helper()
	e := x.s.Take(b)
	if want := x.m.take(b); e != want {
		t.Errorf("Take(%v) = %v, want %v", b, e, want)
	}
	wantState(t, "Take", x.s, x.m)
	return e
}

// holding returns a pair whose store has some versions.
func holding(t *testing.T, me int, f boxes, l ...api.Version) pair {
	t.Helper()
	x := newPair(t, me, f)
	if e := x.take(t, api.Batch{Site: me, Versions: l}); e != api.OK {
		t.Fatal(e)
	}
	return x
}

// wantMakeError checks that a version is refused and the site stays the same.
func wantMakeError(t *testing.T, s *site.Site, id string, p api.Point, body int, want api.Errno) {
	t.Helper()
	before := picture(s)
	if d, e := s.Make(id, p, body); d != (api.Dot{}) || e != want || picture(s) != before {
		t.Errorf("Make(%q, %v, %d) = %v, %v, want %v", id, p, body, d, e, want)
	}
}

// P42
func TestNew(t *testing.T) {
	for me := range 5 {
		for _, f := range someFilters() {
			x := newPair(t, me, f)
			wantState(t, "New", x.s, x.m)
			if len(x.s.Parts()) != 0 || len(x.s.Shelf()) != 0 {
				t.Errorf("New(%d, %v) has %v, %v", me, f, x.s.Parts(), x.s.Shelf())
			}
		}
	}
}

// P42: the number comes ahead of the filter.
func TestNewErrors(t *testing.T) {
	for _, me := range outside(5) {
		for _, f := range append(someFilters(), badFilters()[0].f, badFilters()[4].f) {
			if s, e := site.New(me, f); s != nil || e != api.ErrArg {
				t.Errorf("New(%d, %v) = %v, %v", me, f, s, e)
			}
		}
	}
	for _, b := range badFilters() {
		if s, e := site.New(4, b.f); s != nil || e != b.e {
			t.Errorf("New(4, %v) = %v, %v, want %v", b.f, s, e, b.e)
		}
	}
}

// P42: the own dots come first, are known for all points whatever the filter
// is, and drop what they imply or are dropped.
func TestKnowledge(t *testing.T) {
	every := filter.Every()
	x := newPair(t, 2, from(0, 4))
	see := func(want ...api.Part) {
		t.Helper()
		wantFacts(t, "Parts", x.s.Parts(), factsOf(want))
		wantState(t, "knowledge", x.s, x.m)
	}
	learn := func(l ...api.Part) {
		t.Helper()
		if e := x.take(t, api.Batch{Site: 2, Parts: l}); e != api.OK {
			t.Fatal(e)
		}
	}
	see()
	learn(api.Part{Filter: from(0, 4), Know: vec(5)})
	see(api.Part{Filter: from(0, 4), Know: vec(5)})
	x.make(t, "a", num(20), 0)
	see(api.Part{Filter: every, Know: vec(0, 0, 1)}, api.Part{Filter: from(0, 4), Know: vec(5)})
	learn(api.Part{Filter: every, Know: vec(1)}, api.Part{Filter: from(2, 9), Know: vec(0, 0, 1)})
	see(api.Part{Filter: every, Know: vec(0, 0, 1)}, api.Part{Filter: from(0, 4), Know: vec(5)}, api.Part{Filter: every, Know: vec(1)})
	// What is learned takes the place of the own dots, but only for all points.
	learn(api.Part{Filter: every, Know: vec(5, 0, 2)})
	see(api.Part{Filter: every, Know: vec(5, 0, 2)})
	x.make(t, "a", num(20), 0)
	see(api.Part{Filter: every, Know: vec(5, 0, 2)})
	x.make(t, "a", num(20), 0)
	see(api.Part{Filter: every, Know: vec(0, 0, 3)}, api.Part{Filter: every, Know: vec(5, 0, 2)})
}

// P43
func TestMake(t *testing.T) {
	for me := range 5 {
		for _, f := range []boxes{nil, from(0, 4), filter.Every()} {
			x := newPair(t, me, f)
			for i, id := range []string{"a", "b", "a", "abcdefgh", "a", "b"} {
				p, body := api.Point{Tags: 3 * i, Num: 31 - 6*i}, []int{0, 1, 1000000}[i%3]
				if d, e := x.s.Make(id, p, body); d != dot(me, i+1) || e != api.OK {
					t.Errorf("Make(%q) = %v, %v", id, d, e)
				}
				if want, e := x.m.make(id, p, body); want != dot(me, i+1) || e != api.OK {
					t.Fatal(want, e)
				}
				wantState(t, "Make", x.s, x.m)
			}
		}
	}
}

// P43: what the site has in store is the Past, and nothing else.
func TestMakePast(t *testing.T) {
	evens := more(series(0, 2, 2, 60)...)
	x := holding(t, 3, filter.Every(), of("a", dot(0, 4), vec(3, 1)), of("a", dot(1, 3), api.Know{}), of("b", dot(4, 9), evens), of("b", dot(0, 122), vec(120)))
	past := func(id string, want api.Know) {
		t.Helper()
		x.make(t, id, num(1), 1)
		if l, e := x.s.Read(id); e != api.OK || len(l) != 1 || !sameKnow(l[0].Past, want) {
			t.Errorf("%q is %v, %v, want past %v", id, l, e, want)
		}
	}
	past("a", api.Know{Vec: []int{4, 1}, More: []api.Dot{dot(1, 3)}})
	past("c", api.Know{})
	past("a", api.Know{Vec: []int{4, 1, 0, 1}, More: []api.Dot{dot(1, 3)}})
	past("b", api.Know{Vec: []int{120}, More: []api.Dot{dot(0, 122), dot(4, 9)}})
	// Once they are gone, nothing of them is known.
	if e := x.take(t, api.Batch{Site: 3, Gone: []api.Gone{{Id: "a", Past: vec(9, 9, 9, 9)}}}); e != api.OK {
		t.Fatal(e)
	}
	past("a", api.Know{})
}

// P43: the name, then the point and the body, then the number of versions, then
// shelf.Past, then shelf.Put.
func TestMakeErrors(t *testing.T) {
	first, full := newPair(t, 1, nil).s, exhausted(t, filter.Every(), "a").s
	stuck := overflowing(t).s
	for _, s := range []*site.Site{first, full, stuck} {
		for _, id := range badIds() {
			wantMakeError(t, s, id, num(1), 1, api.ErrForm)
			wantMakeError(t, s, id, num(32), 1, api.ErrForm)
			wantMakeError(t, s, id, num(1), -1, api.ErrForm)
		}
		for _, p := range badPoints() {
			wantMakeError(t, s, "a", p, 1, api.ErrArg)
		}
		for _, body := range outside(1000001) {
			wantMakeError(t, s, "a", num(1), body, api.ErrArg)
		}
	}
	if d, e := first.Make("a", num(1), 1000000); d != dot(1, 1) || e != api.OK {
		t.Errorf("Make after errors = %v, %v", d, e)
	}
}

// exhausted returns a site 0 that has created 1000 versions.
func exhausted(t *testing.T, f boxes, id string) pair {
	t.Helper()
	x := newPair(t, 0, f)
	for i := range 1000 {
		d, e := x.s.Make(id, num(1), i)
		if want, we := x.m.make(id, num(1), i); d != want || e != we || e != api.OK {
			t.Fatal(i, d, e)
		}
	}
	wantState(t, "1000 versions", x.s, x.m)
	return x
}

// overflowing returns a site 1 in whose store the Past of "a" would be too large
// and would have the site's next dot.
func overflowing(t *testing.T) pair {
	t.Helper()
	return holding(t, 1, nil,
		of("a", dot(2, 1), more(series(0, 2, 2, 60)...)),
		of("a", dot(3, 1), api.Know{Vec: []int{0, 1}, More: series(2, 3, 2, 2)}))
}

// P43
func TestMakeThousand(t *testing.T) {
	x := exhausted(t, nil, "a")
	for _, id := range []string{"a", "b"} {
		wantMakeError(t, x.s, id, num(1), 1, api.ErrLarge)
	}
	if l, e := x.s.Read("a"); e != api.OK || len(l) != 1 || l[0].Dot != dot(0, 1000) || !sameKnow(l[0].Past, vec(999)) {
		t.Errorf("the last version is %v, %v", l, e)
	}
	// A version that knows dots of the future would be ErrForm.
	y := exhausted(t, nil, "a")
	if e := y.take(t, api.Batch{Versions: versions{of("b", dot(1, 1), vec(1000))}}); e != api.OK {
		t.Fatal(e)
	}
	wantMakeError(t, y.s, "b", num(1), 1, api.ErrLarge)
}

// P43: the errors of shelf.Past and shelf.Put; the dot is not used up.
func TestMakeStoreErrors(t *testing.T) {
	x := overflowing(t)
	wantMakeError(t, x.s, "a", num(1), 1, api.ErrLarge)
	if e := x.make(t, "b", num(1), 1); e != api.OK {
		t.Errorf("Make(b) = %v", e)
	}

	// A version or its Past has the next dot of the site.
	for _, v := range (versions{of("a", dot(1, 1), api.Know{}), of("a", dot(2, 1), vec(0, 1)), of("a", dot(2, 1), vec(9, 1000))}) {
		x = holding(t, 1, nil, v)
		wantMakeError(t, x.s, "a", num(1), 1, api.ErrForm)
		if e := x.make(t, "b", num(1), 1); e != api.OK {
			t.Errorf("Make(b) = %v", e)
		}
	}

	x = holding(t, 1, nil, row("a", series(2, 1, 1, 60)...)...)
	wantMakeError(t, x.s, "b", num(1), 1, api.ErrLarge)
	if e := x.make(t, "a", num(1), 1); e != api.OK || len(x.s.Shelf()) != 1 {
		t.Errorf("Make(a) = %v", e)
	}
	if e := x.make(t, "b", num(1), 1); e != api.OK {
		t.Errorf("Make(b) = %v", e)
	}
}

// P44
func TestWant(t *testing.T) {
	for _, f := range someFilters() {
		for _, g := range someFilters() {
			x := holding(t, 1, f,
				of("a", dot(0, 3), api.Know{}),
				of("a", dot(2, 8), vec(0, 0, 2)),
				of("b", dot(1, 10), api.Know{}),
				of("b", dot(4, 20), api.Know{}),
				api.Version{Id: "c", Dot: dot(3, 1), Point: api.Point{Tags: 15, Num: 31}},
				api.Version{Id: "c", Dot: dot(3, 2), Point: api.Point{Tags: 1, Num: 7}})
			x.make(t, "own", num(2), 1)
			x.make(t, "mine", api.Point{Tags: 5, Num: 30}, 2)
			x.take(t, api.Batch{Site: 1, Parts: parts{
				{Filter: from(0, 7), Know: vec(3)},
				{Filter: from(3, 32), Know: vec(3, 0, 2)},
				{Filter: boxes{{Cube: api.Cube{Yes: 1}, Spans: []api.Span{{From: 0, To: 32}}}}, Know: vec(0, 0, 8)},
				{Filter: f, Know: more(dot(4, 20))},
			}})
			x.want(t, g)
			x.want(t, f)
			x.want(t, f)
		}
	}
}

// P44: only versions by others are removed, and what is narrowed stays so.
func TestWantCases(t *testing.T) {
	every := filter.Every()
	x := holding(t, 0, every, of("a", dot(1, 3), api.Know{}), of("a", dot(0, 30), api.Know{}), of("b", dot(1, 8), api.Know{}), of("b", dot(2, 9), api.Know{}))
	x.take(t, api.Batch{Parts: parts{{Filter: every, Know: vec(0, 9)}, {Filter: from(9, 32), Know: vec(0, 0, 7)}}})
	x.make(t, "own", num(31), 1)
	x.want(t, from(0, 9))
	wantVersions(t, "Want", x.s.Shelf(), versions{of("a", dot(0, 30), api.Know{}), of("a", dot(1, 3), api.Know{}), of("b", dot(1, 8), api.Know{}), {Id: "own", Dot: dot(0, 1), Point: num(31), Body: 1}})
	wantFacts(t, "Want", x.s.Parts(), factsOf(parts{{Filter: every, Know: vec(1)}, {Filter: from(0, 9), Know: vec(0, 9)}}))
	x.want(t, every)
	wantFacts(t, "Want", x.s.Parts(), factsOf(parts{{Filter: every, Know: vec(1)}, {Filter: from(0, 9), Know: vec(0, 9)}}))
	x.want(t, nil)
	wantFacts(t, "Want", x.s.Parts(), factsOf(parts{{Filter: every, Know: vec(1)}}))
	if made, stamp := x.s.Made(); made != 1 || stamp != 3 || len(x.s.Shelf()) != 2 {
		t.Errorf("Made = %d, %d, with %v", made, stamp, x.s.Shelf())
	}
}

// P44
func TestWantErrors(t *testing.T) {
	x := holding(t, 0, from(0, 9), of("a", dot(1, 3), api.Know{}), of("a", dot(1, 20), api.Know{}))
	before := picture(x.s)
	for _, b := range badFilters() {
		if e := x.s.Want(b.f); e != b.e || picture(x.s) != before {
			t.Errorf("Want(%v) = %v, want %v", b.f, e, b.e)
		}
	}
	wantState(t, "Want", x.s, x.m)
}

// P45
func TestAsk(t *testing.T) {
	for me := range 5 {
		for i, f := range someFilters() {
			x := newPair(t, me, f)
			for range i % 3 {
				x.want(t, from(0, 5))
				x.want(t, f)
			}
			x.make(t, "a", num(1), 1)
			x.take(t, api.Batch{Site: me, Stamp: i % 3 * 2, Parts: parts{{Filter: f, Know: vec(7, 7, 7)}}})
			a := x.s.Ask()
			if a.Site != me || a.Stamp != i%3*2 {
				t.Errorf("Ask is of %d, %d", a.Site, a.Stamp)
			}
			wantFilter(t, "Ask", a.Filter, pointsOf(f))
			wantFacts(t, "Ask", a.Parts, x.m.knowledge())
			// It stays what it was when the site goes on.
			before := picture(a)
			x.make(t, "a", num(2), 2)
			x.want(t, nil)
			if picture(a) != before {
				t.Errorf("Ask changes to %v", a)
			}
		}
	}
}

// giver has versions with several points, of which it knows more than it has.
func giver(t *testing.T) pair {
	t.Helper()
	x := holding(t, 1, from(0, 20),
		of("a", dot(0, 3), api.Know{}),
		of("a", dot(2, 8), vec(2, 0, 2)),
		of("b", dot(4, 20), vec(0, 0, 0, 3)),
		of("b", dot(4, 21), vec(0, 0, 0, 3)),
		of("b", dot(4, 22), api.Know{}),
		api.Version{Id: "c", Dot: dot(3, 4), Point: api.Point{Tags: 15, Num: 31}, Past: more(dot(3, 3))},
		api.Version{Id: "c", Dot: dot(3, 5), Point: api.Point{Tags: 1, Num: 7}, Body: 1000000})
	x.make(t, "own", num(3), 1)
	x.make(t, "a", num(30), 2)
	x.take(t, api.Batch{Site: 1, Parts: parts{
		{Filter: from(0, 20), Know: vec(5, 0, 8)},
		{Filter: from(4, 20), Know: vec(5, 0, 8, 5)},
		{Filter: from(0, 4), Know: api.Know{Vec: []int{0, 0, 1}, More: series(4, 20, 1, 3)}},
	}})
	return x
}

// P46
func TestGive(t *testing.T) {
	x := giver(t)
	stated := []parts{
		nil,
		{{Filter: filter.Every(), Know: vec(1000, 1000, 1000, 1000, 1000)}},
		{{Filter: from(0, 10), Know: vec(0, 0, 0, 4)}, {Filter: from(7, 8), Know: more(dot(3, 5))}},
		{{Filter: from(8, 9), Know: more(dot(3, 5))}, {Filter: from(7, 8), Know: vec(9, 9, 9, 4)}},
		{{Filter: at(api.Point{Tags: 1, Num: 7}), Know: vec(0, 0, 0, 5)}},
		{{Filter: from(0, 10), Know: vec(0, 1)}, {Filter: from(0, 10), Know: vec(0, 1)}, {}},
	}
	for asker := range 5 {
		for i, f := range someFilters() {
			for _, l := range stated {
				x.give(t, api.Ask{Site: asker, Stamp: i, Filter: f, Parts: l})
			}
		}
	}
	for _, a := range []api.Ask{{}, {Site: 4, Stamp: math.MaxInt, Filter: from(0, 20)}, x.s.Ask()} {
		x.give(t, a)
	}
	x = newPair(t, 0, nil)
	x.give(t, api.Ask{Site: 1, Filter: filter.Every()})
}

// P46: what the request knows for the point of a version is left out, what is
// gone is not.
func TestGiveCases(t *testing.T) {
	a, b, c, d := of("a", dot(0, 1), api.Know{}), of("a", dot(0, 9), vec(0, 3)), of("a", dot(0, 10), vec(0, 3)), of("b", dot(0, 2), vec(0, 0, 4))
	x := holding(t, 1, filter.Every(), b, c, a, d)
	every, all := filter.Every(), vec(1000, 1000, 1000, 1000, 1000)
	for _, y := range []struct {
		f    boxes
		l    parts
		want versions
		gone []api.Gone
	}{
		{every, nil, versions{a, b, c, d}, nil},
		{nil, nil, nil, []api.Gone{{Id: "a"}, {Id: "a", Past: vec(0, 3)}, {Id: "a", Past: vec(0, 3)}, {Id: "b", Past: vec(0, 0, 4)}}},
		{from(2, 10), nil, versions{b, d}, []api.Gone{{Id: "a"}, {Id: "a", Past: vec(0, 3)}}},
		{every, parts{{Filter: every, Know: all}}, nil, nil},
		{from(9, 11), parts{{Filter: every, Know: all}}, nil, []api.Gone{{Id: "a"}, {Id: "b", Past: vec(0, 0, 4)}}},
		{every, parts{{Filter: every, Know: vec(2)}}, versions{b, c}, nil},
		{every, parts{{Filter: from(2, 10), Know: all}}, versions{a, c}, nil},
		{every, parts{{Filter: from(9, 10), Know: more(dot(0, 10))}, {Filter: from(10, 11), Know: more(dot(0, 9))}}, versions{a, b, c, d}, nil},
		{every, parts{{Filter: from(10, 11), Know: more(dot(0, 9))}, {Filter: from(10, 11), Know: more(dot(0, 10))}}, versions{a, b, d}, nil},
	} {
		ask := api.Ask{Site: 2, Stamp: 7, Filter: y.f, Parts: y.l}
		r, e := x.s.Give(ask)
		wantAnswer(t, "Give", r, e, ask, answer{versions: y.want, gone: y.gone})
	}
}

// P46: the parts are narrowed to the filter of the request and reduced.
func TestGiveParts(t *testing.T) {
	x := giver(t)
	ask := api.Ask{Site: 0, Filter: from(4, 9)}
	r, e := x.s.Give(ask)
	wantFacts(t, "Give", r.Parts, factsOf(parts{{Filter: from(4, 9), Know: vec(0, 2)}, {Filter: from(4, 9), Know: vec(5, 0, 8, 5)}}))
	wantAnswer(t, "Give", r, e, ask, x.m.give(ask))
	ask.Filter = from(25, 32)
	r, _ = x.s.Give(ask)
	wantFacts(t, "Give", r.Parts, factsOf(parts{{Filter: from(25, 32), Know: vec(0, 2)}}))
	ask.Filter = nil
	if r, _ = x.s.Give(ask); len(r.Parts) != 0 {
		t.Errorf("Give for nothing has %v", r.Parts)
	}
}

// P46: the site and the stamp, then the filter, then the parts.
func TestGiveErrors(t *testing.T) {
	s := giver(t).s
	before := picture(s)
	want := func(a api.Ask, want api.Errno) {
		t.Helper()
		if b, e := s.Give(a); e != want || picture(b) != picture(api.Batch{}) || picture(s) != before {
			t.Errorf("Give(%v) = %v, %v, want %v", a, b, e, want)
		}
	}
	every := filter.Every()
	for _, n := range outside(5) {
		want(api.Ask{Site: n, Filter: every}, api.ErrArg)
		want(api.Ask{Site: n, Filter: badFilters()[0].f}, api.ErrArg)
		want(api.Ask{Site: n, Filter: every, Parts: badParts()[0].l}, api.ErrArg)
	}
	for _, n := range []int{-1, math.MinInt} {
		want(api.Ask{Stamp: n, Filter: every}, api.ErrArg)
		want(api.Ask{Stamp: n, Filter: badFilters()[0].f}, api.ErrArg)
		want(api.Ask{Stamp: n, Filter: every, Parts: badParts()[0].l}, api.ErrArg)
	}
	for _, b := range badFilters() {
		want(api.Ask{Filter: b.f}, b.e)
		want(api.Ask{Filter: b.f, Parts: badParts()[0].l}, b.e)
		want(api.Ask{Filter: b.f, Parts: parts{{Know: vec(0)}}}, b.e)
	}
	for _, b := range badParts() {
		want(api.Ask{Filter: every, Parts: b.l}, b.e)
		want(api.Ask{Parts: b.l}, b.e)
	}
}
