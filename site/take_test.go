package site_test

import (
	"math"
	"slices"
	"testing"

	"reedmace/api"
	"reedmace/filter"
	"reedmace/site"
)

// P47: versions are added, then versions are dropped, and what is said to be
// known is learned.
func TestTake(t *testing.T) {
	every := filter.Every()
	for me := range 5 {
		x := newPair(t, me, from(0, 9))
		take := func(b api.Batch, want ...api.Version) {
			t.Helper()
			b.Site = me
			if e := x.take(t, b); e != api.OK {
				t.Errorf("Take(%v) = %v", b, e)
			}
			wantVersions(t, "Take", x.s.Shelf(), want)
		}
		a, b, c := of("a", dot(0, 1), api.Know{}), of("a", dot(1, 30), vec(0, 2)), of("b", dot(2, 1), api.Know{})
		take(api.Batch{})
		take(api.Batch{Versions: versions{b, c, a, b}}, a, b, c)
		take(api.Batch{Versions: versions{a}}, a, b, c)
		// A version replaces others, and others stay out after it.
		d := of("a", dot(4, 7), more(dot(1, 30)))
		take(api.Batch{Versions: versions{d, b}}, a, d, c)
		// The example: a version that is elsewhere and not wanted has replaced one.
		take(api.Batch{Gone: []api.Gone{{Id: "b", Past: vec(1)}, {Id: "a", Past: vec(1)}}}, d, c)
		take(api.Batch{Gone: []api.Gone{{Id: "b"}, {Id: "c", Past: vec(9, 9, 9, 9, 9)}}}, d, c)
		// Gone comes after all versions, also for those of the same response.
		take(api.Batch{Versions: versions{a, of("a", dot(3, 5), api.Know{})}, Gone: []api.Gone{{Id: "a", Past: api.Know{Vec: []int{5}, More: []api.Dot{dot(4, 7)}}}}}, of("a", dot(3, 5), api.Know{}), c)
		take(api.Batch{Versions: versions{d}, Gone: []api.Gone{{Id: "a", Past: vec(1000, 1000, 1000, 1000, 1000)}}}, c)
		take(api.Batch{Parts: parts{{Filter: from(3, 20), Know: vec(4)}, {Filter: from(4, 6), Know: vec(3)}, {}}}, c)
		wantFacts(t, "Take", x.s.Parts(), factsOf(parts{{Filter: from(3, 20), Know: vec(4)}}))
		take(api.Batch{Parts: parts{{Filter: every, Know: vec(3)}, {Filter: from(3, 20), Know: vec(5)}}}, c)
		wantFacts(t, "Take", x.s.Parts(), factsOf(parts{{Filter: every, Know: vec(3)}, {Filter: from(3, 20), Know: vec(5)}}))
		take(api.Batch{Parts: parts{{Filter: every, Know: vec(6)}}}, c)
		wantFacts(t, "Take", x.s.Parts(), factsOf(parts{{Filter: every, Know: vec(6)}}))
	}
}

// P47: the example, with two sites.
func TestTakeGone(t *testing.T) {
	a, b := newPair(t, 0, from(0, 9)), newPair(t, 1, filter.Every())
	b.make(t, "x", num(3), 1)
	b.make(t, "y", num(20), 2)
	if e := a.take(t, b.give(t, a.s.Ask())); e != api.OK {
		t.Fatal(e)
	}
	wantVersions(t, "before", a.s.Shelf(), versions{{Id: "x", Dot: dot(1, 1), Point: num(3), Body: 1}})
	b.make(t, "x", num(30), 3)
	if e := a.take(t, b.give(t, a.s.Ask())); e != api.OK {
		t.Fatal(e)
	}
	wantVersions(t, "after", a.s.Shelf(), nil)
	wantFacts(t, "after", a.s.Parts(), factsOf(parts{{Filter: from(0, 9), Know: vec(0, 3)}}))
}

// fault makes a response invalid. A response with several of them has the
// error of the first one in the order of faults.
type fault struct {
	e      api.Errno
	change func(b *api.Batch)
}

func faultsOfNumbers() []fault {
	var l []fault
	for _, n := range outside(5) {
		l = append(l, fault{api.ErrArg, func(b *api.Batch) { b.Site = n }})
	}
	for _, n := range []int{-1, math.MinInt} {
		l = append(l, fault{api.ErrArg, func(b *api.Batch) { b.Stamp = n }})
	}
	return append(l,
		fault{api.ErrLarge, func(b *api.Batch) {
			b.Versions = append(b.Versions, slices.Repeat(row("k", dot(2, 5)), 61-len(b.Versions))...)
		}},
		fault{api.ErrLarge, func(b *api.Batch) {
			b.Gone = append(b.Gone, slices.Repeat([]api.Gone{{Id: "k"}}, 61-len(b.Gone))...)
		}})
}

// faultsOfVersions put an invalid version behind a valid one and ahead of one
// with another error.
func faultsOfVersions() []fault {
	var l []fault
	add := func(e api.Errno, change func(v *api.Version)) {
		v := of("bad", dot(2, 7), vec(0, 0, 3))
		change(&v)
		other := of("a", dot(0, 0), api.Know{})
		if e == api.ErrArg {
			other.Id = ""
		}
		l = append(l, fault{e, func(b *api.Batch) { b.Versions = versions{of("k", dot(2, 6), api.Know{}), v, other} }})
	}
	for _, id := range badIds() {
		add(api.ErrForm, func(v *api.Version) { v.Id, v.Body = id, -1 })
	}
	for _, p := range badPoints() {
		add(api.ErrArg, func(v *api.Version) { v.Point, v.Past = p, vec(0) })
	}
	for _, n := range outside(1000001) {
		add(api.ErrArg, func(v *api.Version) { v.Body = n })
		add(api.ErrArg, func(v *api.Version) { v.Dot.Count = n })
		add(api.ErrArg, func(v *api.Version) { v.Dot.Site = n })
	}
	for _, k := range badKnows() {
		add(k.e, func(v *api.Version) { v.Past = k.k })
	}
	add(api.ErrForm, func(v *api.Version) { v.Past = vec(0, 0, 7) })
	return l
}

func faultsOfGone() []fault {
	var l []fault
	add := func(e api.Errno, g api.Gone) {
		other := api.Gone{Past: vec(0)}
		if e == api.ErrForm {
			other = api.Gone{Id: "a", Past: vec(1001)}
		}
		l = append(l, fault{e, func(b *api.Batch) { b.Gone = []api.Gone{{Id: "k", Past: vec(1)}, g, other} }})
	}
	for _, id := range badIds() {
		add(api.ErrForm, api.Gone{Id: id})
		add(api.ErrForm, api.Gone{Id: id, Past: vec(1001)})
	}
	for _, k := range badKnows() {
		add(k.e, api.Gone{Id: "a", Past: k.k})
	}
	return l
}

func faultsOfParts() []fault {
	var l []fault
	for _, p := range badParts() {
		l = append(l, fault{p.e, func(b *api.Batch) { b.Parts = p.l }})
	}
	return l
}

// crowded returns a site 1, whose filter has been changed 3 times, with a full
// store and as many parts as it may have learned.
func crowded(t *testing.T) pair {
	t.Helper()
	x := newPair(t, 1, nil)
	for range 3 {
		x.want(t, filter.Every())
	}
	if e := x.take(t, api.Batch{Site: 1, Stamp: 3, Versions: row("a", series(2, 1, 1, 60)...), Parts: singles(0, 29)}); e != api.OK {
		t.Fatal(e)
	}
	return x
}

// faultsOfState are faults only for the site that crowded returns.
func faultsOfState() [][]fault {
	return [][]fault{
		{
			{api.ErrArg, func(b *api.Batch) { b.Site = 0 }},
			{api.ErrArg, func(b *api.Batch) { b.Site = 2 }},
			{api.ErrArg, func(b *api.Batch) { b.Site = 4 }},
		},
		{
			{api.ErrOld, func(b *api.Batch) { b.Stamp = 0 }},
			{api.ErrOld, func(b *api.Batch) { b.Stamp = 2 }},
			{api.ErrOld, func(b *api.Batch) { b.Stamp = 4 }},
			{api.ErrOld, func(b *api.Batch) { b.Stamp = math.MaxInt }},
		},
		{
			{api.ErrLarge, func(b *api.Batch) { b.Versions = append(b.Versions, of("new", dot(3, 1), api.Know{})) }},
			{api.ErrLarge, func(b *api.Batch) { b.Parts = append(b.Parts, singles(29, 1)...) }},
		},
	}
}

// P47: every fault, and every two faults, of which the first one counts; the
// site stays the same.
func TestTakeErrors(t *testing.T) {
	s := crowded(t).s
	before := picture(s)
	stages := append([][]fault{faultsOfNumbers()[:6], faultsOfNumbers()[6:], faultsOfVersions(), faultsOfGone(), faultsOfParts()}, faultsOfState()...)
	try := func(e api.Errno, changes ...fault) {
		b := api.Batch{Site: 1, Stamp: 3, Versions: row("a", dot(2, 1)), Gone: []api.Gone{{Id: "a", Past: vec(0, 0, 9)}}, Parts: singles(0, 2)}
		for _, c := range changes {
			c.change(&b)
		}
		if r := s.Take(b); r != e {
			t.Errorf("Take(%v) = %v, want %v", b, r, e)
		}
	}
	for i, first := range stages {
		for _, x := range first {
			try(x.e, x)
			for _, second := range stages[i+1:] {
				for _, y := range second {
					try(x.e, y, x)
				}
			}
		}
	}
	if picture(s) != before {
		t.Error("a response with an error changes the site")
	}
	try(api.OK)
	if len(s.Shelf()) != 51 {
		t.Errorf("the response without an error leaves %d versions", len(s.Shelf()))
	}
}

// P47: sixty versions and sixty elements of Gone are not too many.
func TestTakeSixty(t *testing.T) {
	var gone []api.Gone
	for i := range 60 {
		gone = append(gone, api.Gone{Id: "a", Past: more(dot(2, 2+i))})
	}
	x := newPair(t, 1, nil)
	if e := x.take(t, api.Batch{Site: 1, Versions: row("a", series(2, 2, 1, 60)...), Gone: gone[:59]}); e != api.OK || len(x.s.Shelf()) != 1 {
		t.Errorf("Take = %v, %v", e, x.s.Shelf())
	}
	if e := x.take(t, api.Batch{Site: 1, Versions: row("b", series(2, 2, 1, 59)...), Gone: gone}); e != api.OK || len(x.s.Shelf()) != 59 {
		t.Errorf("Take = %v, %v", e, x.s.Shelf())
	}
}

// P47: what counts is the store after each version, not that at the end.
func TestTakeOneByOne(t *testing.T) {
	all := of("a", dot(3, 1), vec(0, 0, 1000))
	more := row("a", series(2, 60, 1, 2)...)
	for _, c := range []struct {
		l    versions
		gone []api.Gone
		e    api.Errno
		n    int
	}{
		{more[:1], nil, api.OK, 60},
		{more, nil, api.ErrLarge, 59},
		{append(slices.Clone(more), all), nil, api.ErrLarge, 59},
		{append(versions{all}, more...), nil, api.OK, 1},
		{versions{more[0], all, more[1]}, nil, api.OK, 1},
		{more, []api.Gone{{Id: "a", Past: vec(0, 0, 1000)}}, api.ErrLarge, 59},
		{more[:1], []api.Gone{{Id: "a", Past: vec(0, 0, 1000)}}, api.OK, 0},
		{append(row("b", dot(2, 1), dot(2, 1), dot(2, 1)), of("b", dot(2, 3), vec(0, 0, 2)), of("b", dot(2, 2), api.Know{})), nil, api.OK, 60},
	} {
		x := holding(t, 4, nil, row("a", series(2, 1, 1, 59)...)...)
		if e := x.take(t, api.Batch{Site: 4, Versions: c.l, Gone: c.gone, Parts: singles(0, 1)}); e != c.e || len(x.s.Shelf()) != c.n {
			t.Errorf("Take(%v) = %v with %d versions, want %v with %d", c.l, e, len(x.s.Shelf()), c.e, c.n)
		}
	}
}

// P47: 29 parts can be learned, however many there are on the way.
func TestTakeLearned(t *testing.T) {
	every := filter.Every()
	all := api.Part{Filter: every, Know: vec(1)}
	for _, c := range []struct {
		old, new parts
		e        api.Errno
		n        int
	}{
		{nil, singles(0, 29), api.OK, 29},
		{nil, singles(0, 30), api.ErrLarge, 0},
		{nil, append(singles(0, 29), singles(3, 1)...), api.OK, 29},
		{nil, append(singles(0, 29), all), api.OK, 1},
		{nil, append(singles(0, 29), api.Part{Filter: every}), api.OK, 29},
		{singles(0, 29), nil, api.OK, 29},
		{singles(0, 29), singles(0, 29), api.OK, 29},
		{singles(0, 28), singles(28, 1), api.OK, 29},
		{singles(0, 28), singles(28, 2), api.ErrLarge, 28},
		{singles(0, 29), singles(29, 1), api.ErrLarge, 29},
		{singles(0, 29), singles(29, 2), api.ErrLarge, 29},
		{singles(0, 29), singles(29, 30), api.ErrLarge, 29},
		{singles(0, 29), append(singles(29, 29), all), api.OK, 1},
		{singles(0, 29), parts{all}, api.OK, 1},
		{singles(0, 29), parts{{Filter: from(0, 4), Know: vec(1)}, all, {Filter: from(0, 4), Know: vec(0, 1)}}, api.OK, 2},
	} {
		x := newPair(t, 0, nil)
		if e := x.take(t, api.Batch{Parts: c.old}); e != api.OK {
			t.Fatal(e)
		}
		e := x.take(t, api.Batch{Parts: c.new, Versions: row("a", dot(3, 1)), Gone: []api.Gone{{Id: "b"}}})
		if e != c.e || len(x.s.Parts()) != c.n || len(x.s.Shelf()) == 1 != (e == api.OK) {
			t.Errorf("Take of %d parts = %v with %d parts and %v, want %v with %d", len(c.new), e, len(x.s.Parts()), x.s.Shelf(), c.e, c.n)
		}
	}
}

// P42, P47: the part with the own dots is not one of the 29, even where it
// implies them or is implied.
func TestTakeLearnedBesideOwn(t *testing.T) {
	other := api.Part{Filter: from(0, 4), Know: vec(0, 1)}
	x := newPair(t, 0, nil)
	x.make(t, "a", num(1), 1)
	x.take(t, api.Batch{Parts: singles(0, 29)})
	wantFacts(t, "Parts", x.s.Parts(), factsOf(parts{{Filter: filter.Every(), Know: vec(1)}}))
	if e := x.take(t, api.Batch{Parts: parts{other}}); e != api.ErrLarge {
		t.Errorf("Take of a thirtieth part = %v", e)
	}
	// Parts that the own dots do not imply: 30 parts of knowledge.
	x = newPair(t, 4, nil)
	x.make(t, "a", num(1), 1)
	x.take(t, api.Batch{Site: 4, Parts: singles(0, 29)})
	if l := x.s.Parts(); len(l) != 30 {
		t.Errorf("Parts are %d", len(l))
	}
	x.give(t, api.Ask{Filter: filter.Every(), Parts: x.s.Parts()})
	if e := x.take(t, api.Batch{Site: 4, Parts: parts{other}}); e != api.ErrLarge {
		t.Errorf("Take of a thirtieth part = %v", e)
	}
	x.want(t, from(0, 8))
	if e := x.take(t, api.Batch{Site: 4, Stamp: 1, Parts: parts{other}}); e != api.OK || len(x.s.Parts()) != 10 {
		t.Errorf("Take after Want = %v, %d parts", e, len(x.s.Parts()))
	}
}

// P47: a response is for one site and for the filter that it has.
func TestTakeLate(t *testing.T) {
	a, b := newPair(t, 0, from(0, 9)), newPair(t, 1, filter.Every())
	b.make(t, "x", num(3), 1)
	first := b.give(t, a.s.Ask())
	if e := b.take(t, first); e != api.ErrArg {
		t.Errorf("Take of another site's = %v", e)
	}
	a.want(t, from(0, 9))
	if e := a.take(t, first); e != api.ErrOld {
		t.Errorf("Take of an old response = %v", e)
	}
	second := b.give(t, a.s.Ask())
	b.make(t, "x", num(4), 2)
	third := b.give(t, a.s.Ask())
	a.make(t, "y", num(1), 1)
	// Twice and in another order is as good.
	for _, r := range []api.Batch{third, second, third, second} {
		if e := a.take(t, r); e != api.OK {
			t.Errorf("Take = %v", e)
		}
	}
	if l, e := a.s.Read("x"); e != api.OK || len(l) != 1 || l[0].Body != 2 {
		t.Errorf("Read = %v, %v", l, e)
	}
}

// P48
func TestRead(t *testing.T) {
	x := giver(t)
	for _, id := range append(badIds(), "a", "aa", "b", "c", "own", "none") {
		var want versions
		for _, v := range x.m.store {
			if v.Id == id {
				want = append(want, v)
			}
		}
		we := api.OK
		if len(want) == 0 {
			we = api.ErrNone
		}
		l, e := x.s.Read(id)
		if wantVersions(t, "Read", l, want); e != we {
			t.Errorf("Read(%q) = %v, want %v", id, e, we)
		}
	}
	if l, e := newPair(t, 0, nil).s.Read("a"); len(l) != 0 || e != api.ErrNone {
		t.Errorf("Read of an empty store = %v, %v", l, e)
	}
}

// P48: what fails is not counted.
func TestMade(t *testing.T) {
	s, _ := site.New(3, nil)
	for i := range 5 {
		s.Make("a", num(1), 1)
		s.Make("A", num(1), 1)
		s.Want(filter.Every())
		s.Want(from(0, 33))
		s.Take(api.Batch{Site: 3, Stamp: i + 1, Versions: row("b", dot(3, 900))})
		s.Read("a")
		s.Give(s.Ask())
		if made, stamp := s.Made(); made != i+1 || stamp != i+1 {
			t.Errorf("Made = %d, %d, want %d twice", made, stamp, i+1)
		}
	}
}
