package site_test

import (
	"slices"

	"reedmace/api"
)

// The model of a site follows the chapter word by word, with sets of points
// and of dots that have a bit for each element.

type (
	versions = []api.Version
	boxes    = []api.Box
	parts    = []api.Part
	points   [16]uint32
	dots     [5][16]uint64
)

// fact is a part, with what it has written out.
type fact struct {
	points points
	dots   dots
}

// answer is what a response says.
type answer struct {
	versions versions
	gone     []api.Gone
	facts    []fact
}

type model struct {
	me, made, stamp int
	wants           points
	store           versions
	learned         []fact
}

func (m *points) has(p api.Point) bool {
	return m[p.Tags]>>p.Num&1 == 1
}

func (m *dots) has(d api.Dot) bool {
	return m[d.Site][d.Count/64]>>(d.Count%64)&1 == 1
}

func (m *dots) add(d api.Dot) {
	m[d.Site][d.Count/64] |= 1 << (d.Count % 64)
}

func pointsOf(f boxes) points {
	var m points
	for _, b := range f {
		for tags := range m {
			if tags&b.Cube.Yes == b.Cube.Yes && tags&b.Cube.No == 0 {
				for _, s := range b.Spans {
					for n := s.From; n < s.To; n++ {
						m[tags] |= 1 << n
					}
				}
			}
		}
	}
	return m
}

func everywhere() points {
	var m points
	for tags := range m {
		m[tags] = 1<<32 - 1
	}
	return m
}

func dotsOf(k api.Know) dots {
	var m dots
	for site, n := range k.Vec {
		for c := range n {
			m.add(api.Dot{Site: site, Count: c + 1})
		}
	}
	for _, d := range k.More {
		m.add(d)
	}
	return m
}

// knowOf returns the unique form of a set, or ErrLarge if it has none.
func knowOf(m dots) (api.Know, api.Errno) {
	var k api.Know
	for site := range m {
		n := 0
		for n < 1000 && m.has(api.Dot{Site: site, Count: n + 1}) {
			n++
		}
		k.Vec = append(k.Vec, n)
		for c := n + 1; c <= 1000; c++ {
			if d := (api.Dot{Site: site, Count: c}); m.has(d) {
				k.More = append(k.More, d)
			}
		}
	}
	for len(k.Vec) > 0 && k.Vec[len(k.Vec)-1] == 0 {
		k.Vec = k.Vec[:len(k.Vec)-1]
	}
	if len(k.More) > 60 {
		return api.Know{}, api.ErrLarge
	}
	return k, api.OK
}

func (x *fact) empty() bool {
	return x.points == points{} || x.dots == dots{}
}

// implies reports whether x has all points and all dots of y.
func (x *fact) implies(y *fact) bool {
	for i := range x.points {
		if y.points[i]&^x.points[i] != 0 {
			return false
		}
	}
	for i := range x.dots {
		for k := range x.dots[i] {
			if y.dots[i][k]&^x.dots[i][k] != 0 {
				return false
			}
		}
	}
	return true
}

func factsOf(l parts) []fact {
	var r []fact
	for _, x := range l {
		r = append(r, fact{pointsOf(x.Filter), dotsOf(x.Know)})
	}
	return r
}

func reduced(l []fact) []fact {
	var kept []fact
	for _, x := range l {
		drop := x.empty()
		for _, y := range kept {
			drop = drop || y.implies(&x)
		}
		if drop {
			continue
		}
		var rest []fact
		for _, y := range kept {
			if !x.implies(&y) {
				rest = append(rest, y)
			}
		}
		kept = append(rest, x)
	}
	return kept
}

func narrowed(l []fact, f points) []fact {
	var r []fact
	for _, x := range l {
		for tags := range f {
			x.points[tags] &= f[tags]
		}
		r = append(r, x)
	}
	return reduced(r)
}

// states reports whether some fact says that the dot is known for the point.
func states(l []fact, p api.Point, d api.Dot) bool {
	return slices.ContainsFunc(l, func(x fact) bool { return x.points.has(p) && x.dots.has(d) })
}

// in reports whether a set has a dot.
func in(k api.Know, d api.Dot) bool {
	return d.Site < len(k.Vec) && d.Count <= k.Vec[d.Site] || slices.Contains(k.More, d)
}

func supersedes(v, x api.Version) bool {
	return v.Id == x.Id && in(v.Past, x.Dot)
}

func less(a, b api.Version) bool {
	if a.Id != b.Id {
		return a.Id < b.Id
	}
	if a.Dot.Site != b.Dot.Site {
		return a.Dot.Site < b.Dot.Site
	}
	return a.Dot.Count < b.Dot.Count
}

func put(l versions, v api.Version) (versions, api.Errno) {
	var r versions
	for _, x := range l {
		if x.Id == v.Id && x.Dot == v.Dot || supersedes(x, v) {
			return l, api.OK
		}
		if !supersedes(v, x) {
			r = append(r, x)
		}
	}
	i := 0
	for i < len(r) && less(r[i], v) {
		i++
	}
	if r = slices.Insert(r, i, v); len(r) > 60 {
		return nil, api.ErrLarge
	}
	return r, api.OK
}

func drop(l versions, g api.Gone) versions {
	return slices.DeleteFunc(slices.Clone(l), func(x api.Version) bool { return x.Id == g.Id && in(g.Past, x.Dot) })
}

func (m *model) knowledge() []fact {
	own := fact{points: everywhere()}
	for c := range m.made {
		own.dots.add(api.Dot{Site: m.me, Count: c + 1})
	}
	return reduced(append([]fact{own}, m.learned...))
}

// make is that of a site, for arguments that are valid.
func (m *model) make(id string, p api.Point, body int) (api.Dot, api.Errno) {
	if m.made == 1000 {
		return api.Dot{}, api.ErrLarge
	}
	var union dots
	for _, x := range m.store {
		if x.Id == id {
			for site, row := range dotsOf(x.Past) {
				for i := range row {
					union[site][i] |= row[i]
				}
			}
			union.add(x.Dot)
		}
	}
	past, e := knowOf(union)
	if e != api.OK {
		return api.Dot{}, e
	}
	d := api.Dot{Site: m.me, Count: m.made + 1}
	if union.has(d) {
		return api.Dot{}, api.ErrForm
	}
	store, e := put(m.store, api.Version{Id: id, Dot: d, Point: p, Body: body, Past: past})
	if e != api.OK {
		return api.Dot{}, e
	}
	m.store, m.made = store, m.made+1
	return d, api.OK
}

func (m *model) want(f points) {
	m.wants = f
	m.stamp++
	m.learned = narrowed(m.learned, f)
	m.store = slices.DeleteFunc(slices.Clone(m.store), func(v api.Version) bool {
		return v.Dot.Site != m.me && !f.has(v.Point)
	})
}

// give is that of a site, for a request that is valid.
func (m *model) give(a api.Ask) answer {
	var r answer
	f, facts := pointsOf(a.Filter), factsOf(a.Parts)
	for _, v := range m.store {
		if !f.has(v.Point) {
			r.gone = append(r.gone, api.Gone{Id: v.Id, Past: v.Past})
		} else if !states(facts, v.Point, v.Dot) {
			r.versions = append(r.versions, v)
		}
	}
	r.facts = narrowed(m.knowledge(), f)
	return r
}

// take is that of a site, for a response whose elements are valid.
func (m *model) take(b api.Batch) api.Errno {
	switch {
	case b.Site < 0 || b.Site > 4 || b.Stamp < 0:
		return api.ErrArg
	case len(b.Versions) > 60 || len(b.Gone) > 60 || len(b.Parts) > 30:
		return api.ErrLarge
	case b.Site != m.me:
		return api.ErrArg
	case b.Stamp != m.stamp:
		return api.ErrOld
	}
	store := m.store
	for _, v := range b.Versions {
		var e api.Errno
		if store, e = put(store, v); e != api.OK {
			return e
		}
	}
	for _, g := range b.Gone {
		store = drop(store, g)
	}
	learned := reduced(append(slices.Clone(m.learned), factsOf(b.Parts)...))
	if len(learned) > 29 {
		return api.ErrLarge
	}
	m.store, m.learned = store, learned
	return api.OK
}
