package wire_test

import (
	"math"
	"slices"
	"strings"
	"testing"

	"reedmace/api"
	"reedmace/site"
	"reedmace/wire"
)

// fault makes a response invalid. A response with several of them has the
// error of the first one in the order of faults.
type fault struct {
	e      api.Errno
	change func(b *api.Batch)
}

// outside are numbers that are not from 0 to most.
func outside(most int) []int {
	return []int{math.MinInt, -1 << 32, -1, most + 1, 1<<32 + 1, math.MaxInt}
}

func badIds() []string {
	return []string{"", "abcdefghi", "A", "a`", "{b", "a b", "a\n", "é", "\x00"}
}

func badKnows() map[api.Errno][]api.Know {
	return map[api.Errno][]api.Know{
		api.ErrLarge: {vec(1, 1, 1, 1, 1, 1), vec(1, 1, 1, 1, 1, 0), {Vec: []int{1001}, More: series(0, 2, 61)}},
		api.ErrArg:   {vec(1001), vec(-1, 1), {Vec: []int{1001, 0}, More: []api.Dot{dot(0, 1)}}, more(dot(5, 2)), more(dot(0, 1001)), more(dot(-1, 2)), more(dot(0, 0))},
		api.ErrForm:  {vec(0), vec(2, 0), {Vec: []int{2}, More: []api.Dot{dot(0, 3)}}, more(dot(0, 1)), more(dot(0, 4), dot(0, 4)), more(dot(1, 4), dot(0, 4))},
	}
}

func badFilters() map[api.Errno][]boxes {
	return map[api.Errno][]boxes{
		api.ErrLarge: {make(boxes, 41), {{Spans: make([]api.Span, 17)}}},
		api.ErrArg:   {{{Cube: api.Cube{Yes: 16}}}, {{Cube: api.Cube{No: -1}}}, from(0, 33), from(-1, 3), from(4, 4), append(from(0, 32), from(5, 4)...)},
		api.ErrForm:  {{{Cube: api.Cube{Yes: 3, No: 2}}}, {{Spans: []api.Span{{From: 3, To: 5}, {From: 5, To: 7}}}}},
	}
}

func faultsOfNumbers() []fault {
	var l []fault
	for _, n := range outside(4) {
		l = append(l, fault{api.ErrArg, func(b *api.Batch) { b.Site = n }})
	}
	for _, n := range outside(1000000) {
		l = append(l, fault{api.ErrArg, func(b *api.Batch) { b.Stamp = n }})
	}
	return l
}

func faultsOfLengths() []fault {
	return []fault{
		{api.ErrLarge, func(b *api.Batch) { b.Versions = append(b.Versions, make(versions, 61-len(b.Versions))...) }},
		{api.ErrLarge, func(b *api.Batch) { b.Versions = slices.Repeat(versions{{Id: "a", Dot: dot(0, 1)}}, 61) }},
		{api.ErrLarge, func(b *api.Batch) { b.Gone = append(b.Gone, make([]api.Gone, 61-len(b.Gone))...) }},
		{api.ErrLarge, func(b *api.Batch) { b.Gone = slices.Repeat([]api.Gone{{Id: "a"}}, 61) }},
	}
}

// faultsOfVersions put an invalid version behind a valid one and ahead of one
// with another error.
func faultsOfVersions() []fault {
	var l []fault
	add := func(e api.Errno, change func(v *api.Version)) {
		v := api.Version{Id: "bad", Dot: dot(2, 7), Past: vec(0, 0, 3)}
		change(&v)
		other := api.Version{Id: "a"}
		if e == api.ErrArg {
			other.Id = ""
		}
		l = append(l, fault{e, func(b *api.Batch) { b.Versions = versions{{Id: "k", Dot: dot(2, 6)}, v, other} }})
	}
	for _, id := range badIds() {
		add(api.ErrForm, func(v *api.Version) { v.Id, v.Body = id, -1 })
	}
	for _, n := range outside(1000000) {
		add(api.ErrArg, func(v *api.Version) { v.Body = n })
	}
	for _, n := range outside(31) {
		add(api.ErrArg, func(v *api.Version) { v.Point.Tags, v.Past = n, vec(0) })
		add(api.ErrArg, func(v *api.Version) { v.Point.Num, v.Past = n, vec(0) })
		add(api.ErrArg, func(v *api.Version) { v.Dot.Site, v.Past = n, vec(0) })
	}
	for _, n := range append(outside(1000), 0) {
		add(api.ErrArg, func(v *api.Version) { v.Dot.Count, v.Past = n, vec(0) })
	}
	for e, knows := range badKnows() {
		for _, k := range knows {
			add(e, func(v *api.Version) { v.Past = k })
		}
	}
	add(api.ErrForm, func(v *api.Version) { v.Past = vec(0, 0, 7) })
	add(api.ErrForm, func(v *api.Version) { v.Past = more(dot(2, 7)) })
	return l
}

func faultsOfGone() []fault {
	var l []fault
	add := func(e api.Errno, g api.Gone) {
		other := api.Gone{Past: vec(0)}
		if e == api.ErrForm {
			other = api.Gone{Id: "a", Past: vec(1001)}
		}
		l = append(l, fault{e, func(b *api.Batch) { b.Gone = []api.Gone{{Id: "k", Past: vec(1)}, g, other} }})
	}
	for _, id := range badIds() {
		add(api.ErrForm, api.Gone{Id: id})
		add(api.ErrForm, api.Gone{Id: id, Past: vec(1001)})
	}
	for e, knows := range badKnows() {
		for _, k := range knows {
			add(e, api.Gone{Id: "a", Past: k})
		}
	}
	return l
}

// faultsOfParts put an invalid part behind a valid one and ahead of one with
// another error.
func faultsOfParts() []fault {
	var l []fault
	add := func(e api.Errno, p api.Part) {
		other := api.Part{Know: vec(0)}
		if e == api.ErrForm {
			other = api.Part{Know: vec(1001)}
		}
		l = append(l, fault{e, func(b *api.Batch) { b.Parts = parts{{Filter: from(0, 9), Know: vec(1)}, p, other} }})
	}
	for e, filters := range badFilters() {
		for _, f := range filters {
			add(e, api.Part{Filter: f})
			add(e, api.Part{Filter: f, Know: other(e)})
		}
	}
	for e, knows := range badKnows() {
		for _, k := range knows {
			add(e, api.Part{Filter: from(0, 9), Know: k})
		}
	}
	large := func(b *api.Batch) { b.Parts = append(make(parts, 30), api.Part{Know: vec(0)}) }
	return append(l, fault{api.ErrLarge, large}, fault{api.ErrLarge, func(b *api.Batch) { b.Parts = make(parts, 31) }})
}

// other returns a set with another error.
func other(e api.Errno) api.Know {
	if e == api.ErrArg {
		return vec(0)
	}
	return vec(1001)
}

// stages are the faults, those of each step of Check together.
func stages() [][]fault {
	return [][]fault{faultsOfNumbers(), faultsOfLengths(), faultsOfVersions(), faultsOfGone(), faultsOfParts()}
}

// faulty returns the example with some changes.
func faulty(l ...fault) api.Batch {
	b := example()
	for _, x := range l {
		x.change(&b)
	}
	return b
}

// everyFault calls test for every fault, and for every two, of which the first
// one counts.
func everyFault(test func(b api.Batch, e api.Errno)) {
	all := stages()
	for i, first := range all {
		for _, x := range first {
			test(faulty(x), x.e)
			for _, second := range all[i+1:] {
				for _, y := range second {
					test(faulty(y, x), x.e)
				}
			}
		}
	}
}

// P49: every fault, alone and with a later one.
func TestCheckErrors(t *testing.T) {
	everyFault(func(b api.Batch, e api.Errno) {
		if r := wire.Check(b); r != e {
			t.Errorf("Check(%v) = %v, want %v", b, r, e)
		}
	})
}

// P49: the errors are those of a site.
func TestCheckLikeTake(t *testing.T) {
	everyFault(func(b api.Batch, e api.Errno) {
		if b.Stamp > 1000000 {
			return
		}
		s, _ := site.New(1, nil)
		if r := s.Take(b); r != e {
			t.Errorf("Take(%v) = %v, want %v", b, r, e)
		}
	})
}

// P49: what no single element forbids is valid, whichever site it is for and
// whatever a site would say about it.
func TestCheck(t *testing.T) {
	same := api.Version{Id: "a", Dot: dot(0, 1)}
	after := api.Version{Id: "a", Dot: dot(0, 2), Past: vec(1)}
	dots := series(3, 2, 60)
	var apart parts
	for n := range 30 {
		apart = append(apart, api.Part{Filter: from(n, n+1), Know: vec(1)})
	}
	l := []api.Batch{
		{},
		example(),
		sized(20000),
		sized(20001),
		{Versions: slices.Repeat(versions{same}, 60), Gone: slices.Repeat([]api.Gone{{Id: "a"}}, 60), Parts: make(parts, 30)},
		{Versions: versions{{Id: "b", Dot: dot(4, 1000)}, after, same, after}},
		{Versions: versions{{Id: "abcdefgh", Dot: dot(1, 1), Point: api.Point{Tags: 15, Num: 31}, Body: 1000000, Past: api.Know{Vec: []int{1000, 0, 0, 0, 1000}, More: dots}}}},
		{Gone: []api.Gone{{Id: "z", Past: vec(1000, 1000, 1000, 1000, 1000)}, {Id: "a", Past: more(dots...)}}},
		{Parts: parts{{Filter: slices.Repeat(from(0, 32), 40), Know: more(dots...)}, {Filter: make(boxes, 40)}}},
		{Parts: slices.Repeat(parts{{Filter: from(0, 32), Know: vec(1)}}, 30)},
		{Parts: apart},
	}
	for _, b := range l {
		for me := range 5 {
			for _, stamp := range []int{0, 1, 2, 65535, 65536, 999999, 1000000} {
				b.Site, b.Stamp = me, stamp
				if e := wire.Check(b); e != api.OK {
					t.Errorf("Check(%v) = %v", b, e)
				}
			}
		}
	}
}

// P50
func TestSum(t *testing.T) {
	l := []string{"", "\x00", "\x01", "a", "ab", "ba", "\x00a", "\xff\xfe", "é", strings.Repeat("\xff", 22), strings.Repeat("\xff", 23)}
	r := random(1)
	for range 200 {
		b := make([]byte, r.below(3000))
		for i := range b {
			b[i] = byte(r.below(256))
		}
		l = append(l, string(b))
	}
	for _, n := range []int{65519, 65520, 65521, 65522, 200000} {
		l = append(l, strings.Repeat("\xff", n), strings.Repeat("\x00", n-1)+"z")
	}
	for _, s := range l {
		if n := wire.Sum(s); n != sum(s) {
			t.Errorf("Sum of %d bytes, %.20q, is %d, want %d", len(s), s, n, sum(s))
		}
	}
	if n := wire.Sum("ab"); n != 97+2*98 {
		t.Errorf("Sum(ab) = %d", n)
	}
}

// P50: the total, which is more than 63 bits can hold, is never needed.
func TestSumLong(t *testing.T) {
	const n = 300000000
	s := strings.Repeat("\xff", n)
	if got, want := wire.Sum(s), n*(n+1)/2%65521*255%65521; got != want {
		t.Errorf("Sum of %d bytes is %d, want %d", n, got, want)
	}
}

// packed is the encoding of the example, written by hand.
const packed = "\x00\x00\x01" + "\x01\x02\x03" +
	"\x00\x00\x02" +
	"\x00\x00\x02ab" + "\x00\x00\x02\x00\x01\x02" + "\x00\x00\x05\x00\x00\x07" + "\x0f\x42\x40" +
	"\x00\x00\x03" + "\x00\x00\x01\x00\x00\x00\x00\x00\x03" +
	"\x00\x00\x02" + "\x00\x00\x01\x00\x00\x02" + "\x00\x00\x04\x00\x03\xe8" +
	"\x00\x00\x02ab" + "\x00\x00\x03\x00\x00\x02" + "\x00\x00\x0f\x00\x00\x1f" + "\x00\x00\x00" +
	"\x00\x00\x00" + "\x00\x00\x00" +
	"\x00\x00\x02" +
	"\x00\x00\x08zzzzzzzz" + "\x00\x00\x01" + "\x00\x00\x07" + "\x00\x00\x00" +
	"\x00\x00\x01q" + "\x00\x00\x00" + "\x00\x00\x00" +
	"\x00\x00\x03" +
	"\x00\x00\x02" +
	"\x00\x00\x01\x00\x00\x02" + "\x00\x00\x02" + "\x00\x00\x00\x00\x00\x03" + "\x00\x00\x05\x00\x00\x20" +
	"\x00\x00\x08\x00\x00\x01" + "\x00\x00\x00" +
	"\x00\x00\x00" + "\x00\x00\x02" + "\x00\x00\x00\x00\x00\x02" + "\x00\x00\x00\x00\x00\x09" +
	"\x00\x00\x01" +
	"\x00\x00\x00\x00\x00\x00" + "\x00\x00\x01" + "\x00\x00\x03\x00\x00\x14" +
	"\x00\x00\x02" + "\x00\x00\x00\x00\x03\xe8" + "\x00\x00\x00" +
	"\x00\x00\x00" + "\x00\x00\x00" + "\x00\x00\x00" +
	"\x00\x16\xfb"

// P50: every field, and its place.
func TestPack(t *testing.T) {
	if s, e := wire.Pack(example()); s != packed || e != api.OK {
		t.Errorf("Pack of the example = %q, %v, want %q", s, e, packed)
	}
	if s, e := wire.Pack(api.Batch{}); s != strings.Repeat("\x00", 18) || e != api.OK {
		t.Errorf("Pack of nothing = %q, %v", s, e)
	}
	r := random(2)
	long := 0
	for range 1000 {
		b := r.batch([]int{3, 16, 40}[r.below(3)])
		want, we := encode(b), api.OK
		if len(want) > 20000 {
			want, we, long = "", api.ErrLarge, long+1
		}
		if s, e := wire.Pack(b); s != want || e != we {
			t.Errorf("Pack(%v) = %q, %v, want %q, %v", b, s, e, want, we)
		}
	}
	if long > 100 {
		t.Errorf("%d responses are too long", long)
	}
}

// P50: empty lists are nil lists.
func TestPackEmpty(t *testing.T) {
	none := api.Know{Vec: []int{}, More: []api.Dot{}}
	b := api.Batch{
		Versions: versions{{Id: "a", Dot: dot(0, 1), Past: none}},
		Gone:     []api.Gone{{Id: "a", Past: none}},
		Parts:    parts{{Filter: boxes{}, Know: none}, {Filter: boxes{{Spans: []api.Span{}}}}},
	}
	if s, e := wire.Pack(b); s != encode(b) || e != api.OK {
		t.Errorf("Pack = %q, %v", s, e)
	}
	b = api.Batch{Versions: versions{}, Gone: []api.Gone{}, Parts: parts{}}
	if s, e := wire.Pack(b); s != encode(api.Batch{}) || e != api.OK {
		t.Errorf("Pack = %q, %v", s, e)
	}
}

// P50: the errors of Check come ahead of that of the length.
func TestPackErrors(t *testing.T) {
	everyFault(func(b api.Batch, e api.Errno) {
		if s, r := wire.Pack(b); s != "" || r != e {
			t.Errorf("Pack(%v) = %q, %v, want %v", b, s, r, e)
		}
	})
	for n := 19995; n <= 20010; n++ {
		b := sized(n)
		want, we := encode(b), api.OK
		if n > 20000 {
			want, we = "", api.ErrLarge
		}
		if s, e := wire.Pack(b); len(encode(b)) != n || s != want || e != we {
			t.Errorf("Pack of %d bytes has %d, %v", n, len(s), e)
		}
		b.Parts[29].Know = vec(1001)
		if s, e := wire.Pack(b); s != "" || e != api.ErrArg {
			t.Errorf("Pack of %d bytes that are not valid has %d, %v", n, len(s), e)
		}
	}
}
