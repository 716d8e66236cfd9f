package filter_test

import (
	"math"
	"slices"
	"testing"

	"reedmace/api"
	"reedmace/filter"
)

type boxes = []api.Box

// model is a set of points, one by one.
type model [16][32]bool

// modelOf follows the definition: a point is in the filter if for some box
// its tags are in the cube and its number is in one of the intervals.
func modelOf(f boxes) model {
	var m model
	for tags := range m {
		for n := range m[tags] {
			m[tags][n] = slices.ContainsFunc(f, func(b api.Box) bool {
				return inCube(b.Cube, tags) && inSpans(b.Spans, n)
			})
		}
	}
	return m
}

func inCube(c api.Cube, tags int) bool {
	for i := range api.MaxTags {
		present := tags>>i&1 == 1
		if c.Yes>>i&1 == 1 && !present || c.No>>i&1 == 1 && present {
			return false
		}
	}
	return true
}

func inSpans(l []api.Span, n int) bool {
	return slices.ContainsFunc(l, func(s api.Span) bool { return s.From <= n && n < s.To })
}

func (m model) count() int {
	k := 0
	for _, row := range m {
		for _, in := range row {
			if in {
				k++
			}
		}
	}
	return k
}

// merge applies op to the two memberships of every point.
func merge(x, y model, op func(a, b bool) bool) model {
	var m model
	for tags := range m {
		for n := range m[tags] {
			m[tags][n] = op(x[tags][n], y[tags][n])
		}
	}
	return m
}

func one(yes, no int, l ...api.Span) boxes {
	return boxes{{Cube: api.Cube{Yes: yes, No: no}, Spans: l}}
}

// singles are k intervals of one number each, from first on.
func singles(first, k int) []api.Span {
	var l []api.Span
	for i := range k {
		l = append(l, api.Span{From: first + 2*i, To: first + 2*i + 1})
	}
	return l
}

// cubes are all valid ones.
func cubes() []api.Cube {
	var l []api.Cube
	for yes := range 16 {
		for no := range 16 {
			if yes&no == 0 {
				l = append(l, api.Cube{Yes: yes, No: no})
			}
		}
	}
	return l
}

// random returns numbers that look random and are the same in every run.
func random(seed uint32) func(n int) int {
	return func(n int) int {
		seed = seed*1664525 + 1013904223
		return int(seed>>8) % n
	}
}

func randomSpans(next func(int) int) []api.Span {
	var l []api.Span
	for from := next(6); from < api.MaxNum; {
		to := min(from+1+next(9), api.MaxNum)
		l = append(l, api.Span{From: from, To: to})
		from = to + 1 + next(9)
	}
	return l
}

func randomFilter(next func(int) int, k int) boxes {
	var f boxes
	all := cubes()
	for range k {
		f = append(f, api.Box{Cube: all[next(len(all))], Spans: randomSpans(next)})
	}
	return f
}

// ragged is a filter in which every combination of tags has a set of numbers
// of its own, each of as many intervals as there can be: as many even numbers
// as the combination says, and odd ones from there on.
func ragged() boxes {
	var f boxes
	for tags := range 16 {
		l := append(singles(0, tags), singles(2*tags+1, 16-tags)...)
		f = append(f, api.Box{Cube: api.Cube{Yes: tags, No: 15 - tags}, Spans: l})
	}
	return f
}

// samples are filters of no, one, several and as many boxes as there may be,
// with empty, overlapping and repeated boxes.
func samples() []boxes {
	l := []boxes{
		nil,
		{},
		filter.Every(),
		one(0, 0),
		one(5, 2),
		one(0, 0, api.Span{From: 0, To: 32}),
		one(1, 0, api.Span{From: 0, To: 10}),
		one(0, 2, api.Span{From: 5, To: 32}),
		one(15, 0, api.Span{From: 31, To: 32}),
		one(0, 15, api.Span{From: 0, To: 1}),
		one(0, 0, singles(0, 16)...),
		one(0, 0, singles(1, 16)...),
		append(one(0, 0, singles(0, 16)...), one(0, 0, singles(1, 16)...)...),
		append(one(1, 0, api.Span{From: 0, To: 32}), one(0, 1, api.Span{From: 0, To: 32})...),
		append(one(8, 0, api.Span{From: 3, To: 9}), one(8, 0, api.Span{From: 3, To: 9})...),
		slices.Repeat(one(3, 4, api.Span{From: 6, To: 7}), 40),
		slices.Repeat(one(0, 0), 40),
		ragged(),
	}
	next := random(7)
	for i := range 40 {
		l = append(l, randomFilter(next, i%5+1))
	}
	for _, k := range []int{16, 17, 39, 40} {
		l = append(l, randomFilter(next, k))
	}
	for i := range 10 {
		l = append(l, one(0, 0, randomSpans(random(uint32(i)))...))
	}
	return l
}

// badFilters are invalid, with the error of each.
func badFilters() []struct {
	f boxes
	e api.Errno
} {
	adjacent := []api.Span{{From: 1, To: 3}, {From: 3, To: 5}}
	good := one(1, 2, api.Span{From: 1, To: 3})
	return []struct {
		f boxes
		e api.Errno
	}{
		{make(boxes, 41), api.ErrLarge},
		{slices.Repeat(good, 41), api.ErrLarge},
		{slices.Repeat(one(16, 0), 1000), api.ErrLarge},
		{one(16, 0, api.Span{From: 1, To: 3}), api.ErrArg},
		{one(0, 16), api.ErrArg},
		{one(-1, 0), api.ErrArg},
		{one(0, -1), api.ErrArg},
		{one(math.MinInt, math.MaxInt), api.ErrArg},
		{one(1, 1), api.ErrForm},
		{one(6, 12, api.Span{From: 1, To: 3}), api.ErrForm},
		{one(1, 2, singles(0, 17)...), api.ErrLarge},
		{one(1, 2, make([]api.Span, 1000)...), api.ErrLarge},
		{one(1, 2, api.Span{}), api.ErrArg},
		{one(1, 2, api.Span{From: 0, To: 33}), api.ErrArg},
		{one(1, 2, api.Span{From: -1, To: 3}), api.ErrArg},
		{one(1, 2, api.Span{From: math.MinInt, To: math.MaxInt}), api.ErrArg},
		{one(1, 2, adjacent...), api.ErrForm},
		// Of one box the cube comes first; of several, the first box.
		{one(1, 1, api.Span{}), api.ErrForm},
		{one(16, 0, adjacent...), api.ErrArg},
		{one(16, 0, singles(0, 17)...), api.ErrArg},
		{append(one(1, 2, adjacent...), one(16, 0)...), api.ErrForm},
		{append(one(1, 2, singles(0, 17)...), one(1, 1)...), api.ErrLarge},
		{append(slices.Clone(good), one(1, 1)...), api.ErrForm},
		{append(slices.Repeat(good, 39), one(1, 2, api.Span{})...), api.ErrArg},
	}
}

type operation = func(f, g boxes) (boxes, api.Errno)

func operations() map[string]operation {
	return map[string]operation{"Join": filter.Join, "Meet": filter.Meet, "Less": filter.Less}
}

type test = func(f, g boxes) (bool, api.Errno)

func tests() map[string]test {
	return map[string]test{"Within": filter.Within, "Same": filter.Same}
}

// P12
func TestPoint(t *testing.T) {
	valid := 0
	for tags := -20; tags < 40; tags++ {
		for n := -40; n < 80; n++ {
			want := tags >= 0 && tags <= 15 && n >= 0 && n <= 31
			if is := filter.Point(api.Point{Tags: tags, Num: n}); is != want {
				t.Errorf("Point(%d, %d) = %v", tags, n, is)
			}
			if want {
				valid++
			}
		}
	}
	if valid != 512 {
		t.Error(valid)
	}
	for _, p := range badPoints() {
		if filter.Point(p) {
			t.Errorf("Point(%v) is true", p)
		}
	}
}

func badPoints() []api.Point {
	return []api.Point{
		{Tags: 16}, {Tags: -1}, {Num: 32}, {Num: -1}, {Tags: 16, Num: 32}, {Tags: -1, Num: -1},
		{Tags: math.MinInt}, {Tags: math.MaxInt}, {Num: math.MinInt}, {Num: math.MaxInt},
		{Tags: 1 << 32}, {Num: 1 << 32}, {Tags: 15, Num: 64}, {Tags: 32, Num: 31},
	}
}

// P13
func TestCheck(t *testing.T) {
	for _, f := range samples() {
		if e := filter.Check(f); e != api.OK {
			t.Errorf("Check(%v) = %v", f, e)
		}
	}
	for _, c := range cubes() {
		if e := filter.Check(one(c.Yes, c.No, singles(0, 16)...)); e != api.OK {
			t.Errorf("Check of a box with %v = %v", c, e)
		}
	}
	for _, b := range badFilters() {
		if e := filter.Check(b.f); e != b.e {
			t.Errorf("Check(%v) = %v, want %v", b.f, e, b.e)
		}
	}
}

// P13, P14: the error of Check comes first, of f and then of g, and nothing
// else comes with it.
func TestErrors(t *testing.T) {
	good := one(1, 2, api.Span{From: 1, To: 5})
	for _, b := range badFilters() {
		for _, p := range []api.Point{{Tags: 1, Num: 1}, {Tags: 16}, {Num: -1}} {
			if is, e := filter.Has(b.f, p); is || e != b.e {
				t.Errorf("Has(%v, %v) = %v, %v, want %v", b.f, p, is, e, b.e)
			}
		}
		if n, e := filter.Count(b.f); n != 0 || e != b.e {
			t.Errorf("Count(%v) = %v, %v, want %v", b.f, n, e, b.e)
		}
		wantErrors(t, b.f, good, b.e)
		wantErrors(t, good, b.f, b.e)
		wantErrors(t, nil, b.f, b.e)
		wantErrors(t, b.f, nil, b.e)
		for _, d := range badFilters() {
			wantErrors(t, b.f, d.f, b.e)
		}
	}
}

func wantErrors(t *testing.T, f, g boxes, want api.Errno) {
	t.Helper()
	for name, op := range operations() {
		if r, e := op(f, g); len(r) != 0 || e != want {
			t.Errorf("%s(%v, %v) = %v, %v, want %v", name, f, g, r, e, want)
		}
	}
	for name, is := range tests() {
		if r, e := is(f, g); r || e != want {
			t.Errorf("%s(%v, %v) = %v, %v, want %v", name, f, g, r, e, want)
		}
	}
}

// P14
func TestHas(t *testing.T) {
	for _, f := range samples() {
		m := modelOf(f)
		for tags := range m {
			for n, want := range m[tags] {
				if is, e := filter.Has(f, api.Point{Tags: tags, Num: n}); is != want || e != api.OK {
					t.Errorf("Has(%v, %d, %d) = %v, %v, want %v", f, tags, n, is, e, want)
				}
			}
		}
		for _, p := range badPoints() {
			if is, e := filter.Has(f, p); is || e != api.ErrArg {
				t.Errorf("Has(%v, %v) = %v, %v, want ErrArg", f, p, is, e)
			}
		}
	}
}

// P15, P16
func TestPairs(t *testing.T) {
	for _, f := range samples() {
		for _, g := range samples() {
			testPair(t, f, g)
		}
	}
}

func testPair(t *testing.T, f, g boxes) {
	t.Helper()
	x, y := modelOf(f), modelOf(g)
	less := merge(x, y, func(a, b bool) bool { return a && !b })
	wantFilter(t, "Join", f, g, merge(x, y, func(a, b bool) bool { return a || b }))
	wantFilter(t, "Meet", f, g, merge(x, y, func(a, b bool) bool { return a && b }))
	wantFilter(t, "Less", f, g, less)
	if is, e := filter.Within(f, g); is != (less.count() == 0) || e != api.OK {
		t.Errorf("Within(%v, %v) = %v, %v", f, g, is, e)
	}
	if is, e := filter.Same(f, g); is != (x == y) || e != api.OK {
		t.Errorf("Same(%v, %v) = %v, %v", f, g, is, e)
	}
}

// wantFilter calls an operation; P13 says what every filter that is returned
// must be like.
func wantFilter(t *testing.T, name string, f, g boxes, want model) {
	t.Helper()
	r, e := operations()[name](f, g)
	if e != api.OK || filter.Check(r) != api.OK || len(r) > 16 || modelOf(r) != want {
		t.Errorf("%s(%v, %v) = %v, %v", name, f, g, r, e)
	}
}

// P16, where the two filters differ in one point only.
func TestOnePointApart(t *testing.T) {
	all := filter.Every()
	for tags := range 16 {
		for n := range 32 {
			point := one(tags, 15-tags, api.Span{From: n, To: n + 1})
			rest, e := filter.Less(all, point)
			if e != api.OK {
				t.Fatal(e)
			}
			wantTests(t, rest, all, true, false)
			wantTests(t, all, rest, false, false)
			wantTests(t, point, rest, false, false)
			wantTests(t, rest, rest, true, true)
			back, _ := filter.Join(rest, point)
			wantTests(t, back, all, true, true)
		}
	}
}

func wantTests(t *testing.T, f, g boxes, within, same bool) {
	t.Helper()
	if is, e := filter.Within(f, g); is != within || e != api.OK {
		t.Errorf("Within(%v, %v) = %v, %v, want %v", f, g, is, e, within)
	}
	if is, e := filter.Same(f, g); is != same || e != api.OK {
		t.Errorf("Same(%v, %v) = %v, %v, want %v", f, g, is, e, same)
	}
}

// P13: 16 boxes are enough even where no two combinations of tags have the
// same numbers, and the points of a cube come back as one box.
func TestNumberOfBoxes(t *testing.T) {
	f := ragged()
	if e := filter.Check(f); e != api.OK || len(f) != 16 {
		t.Fatal(e, len(f))
	}
	r, e := filter.Join(f, nil)
	if e != api.OK || len(r) != 16 || modelOf(r) != modelOf(f) {
		t.Error(r, e)
	}
	for _, c := range cubes() {
		f := one(c.Yes, c.No, singles(0, 16)...)
		if r, e := filter.Join(f, f); e != api.OK || len(r) != 1 || r[0].Cube != c {
			t.Errorf("Join(%v) = %v, %v", f, r, e)
		}
	}
}

// P17
func TestCount(t *testing.T) {
	for _, f := range samples() {
		if n, e := filter.Count(f); n != modelOf(f).count() || e != api.OK {
			t.Errorf("Count(%v) = %v, %v, want %v", f, n, e, modelOf(f).count())
		}
	}
	for _, c := range []struct {
		f boxes
		n int
	}{
		{nil, 0},
		{one(0, 0), 0},
		{filter.Every(), 512},
		{one(2, 0, api.Span{From: 0, To: 32}), 256},
		{one(1, 6, api.Span{From: 3, To: 5}), 4},
		{append(one(1, 0, api.Span{From: 0, To: 10}), one(0, 2, api.Span{From: 5, To: 32})...), 276},
	} {
		if n, e := filter.Count(c.f); n != c.n || e != api.OK {
			t.Errorf("Count(%v) = %v, %v, want %v", c.f, n, e, c.n)
		}
	}
}

// P17
func TestEvery(t *testing.T) {
	f := filter.Every()
	if filter.Check(f) != api.OK || len(f) > 16 || modelOf(f).count() != 512 {
		t.Error(f)
	}
}

// filler fills spare capacity; it occurs in no filter.
func filler() api.Box {
	return api.Box{Cube: api.Cube{Yes: -7, No: -7}, Spans: []api.Span{{From: -7, To: -7}}}
}

// roomy returns a copy of f with spare capacity behind its boxes and behind
// the intervals of each box.
func roomy(f boxes) boxes {
	r := make(boxes, 0, len(f)+5)
	for _, b := range f {
		l := append(make([]api.Span, 0, len(b.Spans)+5), b.Spans...)
		r = append(r, api.Box{Cube: b.Cube, Spans: l})
	}
	for i := len(r); i < cap(r); i++ {
		r[:cap(r)][i] = filler()
	}
	for _, b := range r {
		for i := len(b.Spans); i < cap(b.Spans); i++ {
			b.Spans[:cap(b.Spans)][i] = api.Span{From: -7, To: -7}
		}
	}
	return r
}

// whole copies a filter together with all spare capacity.
func whole(f boxes) boxes {
	var r boxes
	for _, b := range f[:cap(f)] {
		r = append(r, api.Box{Cube: b.Cube, Spans: slices.Clone(b.Spans[:cap(b.Spans)])})
	}
	return r
}

func overwrite(f boxes) {
	f = f[:cap(f)]
	for i := range f {
		l := f[i].Spans[:cap(f[i].Spans)]
		for k := range l {
			l[k] = api.Span{From: -9, To: -9}
		}
		f[i].Cube = api.Cube{Yes: -9, No: -9}
	}
}

func equal(f, g boxes) bool {
	return slices.EqualFunc(f, g, func(a, b api.Box) bool {
		return a.Cube == b.Cube && slices.Equal(a.Spans, b.Spans)
	})
}

func clone(f boxes) boxes {
	var r boxes
	for _, b := range f {
		r = append(r, api.Box{Cube: b.Cube, Spans: slices.Clone(b.Spans)})
	}
	return r
}

// P2: arguments and their spare capacity stay as they are, and a result keeps
// its value when arguments and other results are overwritten.
func TestMemory(t *testing.T) {
	for _, sample := range samples() {
		for _, other := range []boxes{nil, filter.Every(), one(1, 0, api.Span{From: 0, To: 10}), sample} {
			for name, op := range operations() {
				f, g := roomy(sample), roomy(other)
				beforeF, beforeG := whole(f), whole(g)
				r, _ := op(f, g)
				again, _ := op(f, g)
				want := clone(r)
				if !equal(whole(f), beforeF) || !equal(whole(g), beforeG) {
					t.Errorf("%s(%v, %v) changes an argument", name, sample, other)
				}
				overwrite(again)
				overwrite(f)
				overwrite(g)
				if !equal(r, want) {
					t.Errorf("%s(%v, %v) shares memory", name, sample, other)
				}
				wantApart(t, r)
			}
		}
	}
}

// wantApart checks that no two boxes of a result share their intervals: what
// is written to one box, also behind its end, is not seen in the others.
func wantApart(t *testing.T, r boxes) {
	t.Helper()
	want := clone(r)
	for i := range r {
		overwrite(r[i : i+1 : i+1])
		if !equal(r[i+1:], want[i+1:]) {
			t.Errorf("box %d of %v shares memory with a later one", i, want)
		}
	}
}

// P2, for the functions that return no list, and for Every.
func TestMemoryOfOthers(t *testing.T) {
	f := roomy(ragged())
	before := whole(f)
	filter.Check(f)
	filter.Has(f, api.Point{Tags: 3, Num: 4})
	filter.Count(f)
	filter.Within(f, f)
	filter.Same(f, f)
	if !equal(whole(f), before) {
		t.Error("an argument is changed")
	}
	all := filter.Every()
	overwrite(filter.Every())
	if modelOf(all).count() != 512 || modelOf(filter.Every()).count() != 512 {
		t.Error("two results of Every share memory")
	}
}

// P1: a panic ends the test, so it is enough to call everything.
func TestNoPanic(t *testing.T) {
	edges := []int{math.MinInt, -1 << 32, -64, -1, 0, 1, 15, 16, 31, 32, 33, 64, 1 << 32, math.MaxInt}
	var l []boxes
	for _, x := range edges {
		for _, y := range edges {
			l = append(l, one(x, y), one(0, 0, api.Span{From: x, To: y}), one(y, x, api.Span{From: x, To: y}, api.Span{From: y, To: x}))
			filter.Point(api.Point{Tags: x, Num: y})
			filter.Has(filter.Every(), api.Point{Tags: x, Num: y})
		}
	}
	for _, f := range l {
		filter.Check(f)
		filter.Count(f)
		filter.Has(f, api.Point{})
		for _, g := range []boxes{nil, filter.Every(), f, l[0]} {
			for _, op := range operations() {
				op(f, g)
				op(g, f)
			}
			for _, is := range tests() {
				is(f, g)
				is(g, f)
			}
		}
	}
}
