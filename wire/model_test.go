package wire_test

import (
	"strings"

	"reedmace/api"
	"reedmace/filter"
	"reedmace/know"
	"reedmace/shelf"
)

// The model of an encoding is the list of numbers and names that P50 names, in
// its order.

type (
	versions = []api.Version
	boxes    = []api.Box
	parts    = []api.Part
)

// encoding is what has been encoded so far.
type encoding struct{ strings.Builder }

func (c *encoding) numbers(l ...int) {
	for _, n := range l {
		c.WriteByte(byte(n / 65536))
		c.WriteByte(byte(n / 256 % 256))
		c.WriteByte(byte(n % 256))
	}
}

func (c *encoding) name(s string) {
	c.numbers(len(s))
	c.WriteString(s)
}

func (c *encoding) know(k api.Know) {
	c.numbers(len(k.Vec))
	c.numbers(k.Vec...)
	c.numbers(len(k.More))
	for _, d := range k.More {
		c.numbers(d.Site, d.Count)
	}
}

// encode is Pack for all responses, also those that are too large or invalid,
// as long as no number is negative or too large for three bytes.
func encode(b api.Batch) string {
	return withSum(encodeBody(b))
}

func encodeBody(b api.Batch) string {
	var c encoding
	c.numbers(b.Site, b.Stamp, len(b.Versions))
	for _, v := range b.Versions {
		c.name(v.Id)
		c.numbers(v.Dot.Site, v.Dot.Count, v.Point.Tags, v.Point.Num, v.Body)
		c.know(v.Past)
	}
	c.numbers(len(b.Gone))
	for _, g := range b.Gone {
		c.name(g.Id)
		c.know(g.Past)
	}
	c.numbers(len(b.Parts))
	for _, p := range b.Parts {
		c.numbers(len(p.Filter))
		for _, x := range p.Filter {
			c.numbers(x.Cube.Yes, x.Cube.No, len(x.Spans))
			for _, s := range x.Spans {
				c.numbers(s.From, s.To)
			}
		}
		c.know(p.Know)
	}
	return c.String()
}

// withSum appends the sum to what precedes it.
func withSum(body string) string {
	var c encoding
	c.WriteString(body)
	c.numbers(sum(body))
	return c.String()
}

// sum is Sum, for strings that are short enough for the total to be a number.
func sum(s string) int {
	total := 0
	for i, c := range []byte(s) {
		total += int(c) * (i + 1)
	}
	return total % 65521
}

func dot(site, count int) api.Dot {
	return api.Dot{Site: site, Count: count}
}

func vec(l ...int) api.Know {
	return api.Know{Vec: l}
}

func more(l ...api.Dot) api.Know {
	return api.Know{More: l}
}

// series returns n dots of a site, every other one from a count on.
func series(site, first, n int) []api.Dot {
	var l []api.Dot
	for i := range n {
		l = append(l, dot(site, first+2*i))
	}
	return l
}

// from is the filter of the numbers from a to ahead of b.
func from(a, b int) boxes {
	return boxes{{Spans: []api.Span{{From: a, To: b}}}}
}

// example has something in every field, and filters without common points.
func example() api.Batch {
	return api.Batch{
		Site:  1,
		Stamp: 66051,
		Versions: versions{
			{Id: "ab", Dot: dot(2, 258), Point: api.Point{Tags: 5, Num: 7}, Body: 1000000, Past: api.Know{Vec: []int{1, 0, 3}, More: []api.Dot{dot(1, 2), dot(4, 1000)}}},
			{Id: "ab", Dot: dot(3, 2), Point: api.Point{Tags: 15, Num: 31}},
		},
		Gone: []api.Gone{{Id: "zzzzzzzz", Past: vec(7)}, {Id: "q"}},
		Parts: parts{
			{
				Filter: boxes{{Cube: api.Cube{Yes: 1, No: 2}, Spans: []api.Span{{From: 0, To: 3}, {From: 5, To: 32}}}, {Cube: api.Cube{Yes: 8, No: 1}}},
				Know:   more(dot(0, 2), dot(0, 9)),
			},
			{Filter: from(3, 20), Know: vec(0, 1000)},
			{},
		},
	}
}

// sized returns a response whose encoding has n bytes; n is near 20000.
func sized(n int) api.Batch {
	f := boxes{}
	for tags := range 16 {
		f = append(f, api.Box{Cube: api.Cube{Yes: tags, No: 15 - tags}, Spans: []api.Span{{From: tags, To: 2*tags + 1}}})
	}
	f = append(append(f, f...), f[:8]...)
	b := api.Batch{Site: 4, Stamp: 1000000}
	for i := range 30 {
		b.Parts = append(b.Parts, api.Part{Filter: f, Know: vec()})
		b.Versions = append(b.Versions, api.Version{Id: "a", Dot: dot(0, 1+i)}, api.Version{Id: "b", Dot: dot(1, 1+i)})
	}
	n -= len(encode(b))
	for i := range b.Versions {
		l := min(n, 7)
		b.Versions[i].Id += "somename"[:l]
		n -= l
	}
	return b
}

// random is a generator of numbers that are always the same.
type random uint64

func (r *random) below(n int) int {
	*r = *r*6364136223846793005 + 1442695040888963407
	return int(uint64(*r)>>33) % n
}

func (r *random) id() string {
	var b strings.Builder
	for range 1 + r.below(8) {
		b.WriteByte(byte('a' + r.below(26)))
	}
	return b.String()
}

func (r *random) dot() api.Dot {
	return dot(r.below(5), 1+r.below([]int{5, 300, 1000}[r.below(3)]))
}

func (r *random) know() api.Know {
	var k api.Know
	for range []int{0, 1, 5, 5, 40}[r.below(5)] {
		k, _ = know.Add(k, r.dot())
	}
	if r.below(2) == 0 {
		k, _ = know.Join(k, vec(r.below(3), r.below(1001), 1+r.below(400)))
	}
	return k
}

func (r *random) version() api.Version {
	for {
		v := api.Version{Id: r.id(), Dot: r.dot(), Point: api.Point{Tags: r.below(16), Num: r.below(32)}, Body: r.below(1000001), Past: r.know()}
		if shelf.One(v) == api.OK {
			return v
		}
	}
}

func (r *random) filter(most int) boxes {
	var f boxes
	for range r.below(most + 1) {
		no := r.below(16)
		b := api.Box{Cube: api.Cube{Yes: r.below(16) &^ no, No: no}}
		for n := r.below(10); n < 31; n += 2 + r.below(9) {
			to := min(32, n+1+r.below(4))
			b.Spans = append(b.Spans, api.Span{From: n, To: to})
			n = to
		}
		f = append(f, b)
	}
	return f
}

// batch returns a valid response with filters of at most so many boxes, which
// may be longer than an encoding may be.
func (r *random) batch(most int) api.Batch {
	b := api.Batch{Site: r.below(5), Stamp: r.below(1000001)}
	for range r.below(6) {
		b.Versions = append(b.Versions, r.version())
	}
	for range r.below(6) {
		b.Gone = append(b.Gone, api.Gone{Id: r.id(), Past: r.know()})
	}
	for range r.below(6) {
		b.Parts = append(b.Parts, api.Part{Filter: r.filter(most), Know: r.know()})
	}
	return b
}

// samePoints compares two filters point by point.
func samePoints(f, g boxes) bool {
	for tags := range 16 {
		for num := range 32 {
			p := api.Point{Tags: tags, Num: num}
			x, _ := filter.Has(f, p)
			y, _ := filter.Has(g, p)
			if x != y {
				return false
			}
		}
	}
	return true
}
