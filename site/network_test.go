package site_test

import (
	"slices"
	"testing"

	"reedmace/api"
	"reedmace/filter"
)

// random returns numbers that look random and are the same in every run.
func random(seed uint32) func(n int) int {
	return func(n int) int {
		seed = seed*1664525 + 1013904223
		return int(seed>>8) % n
	}
}

// network is what TestNetwork plays with: sites, messages that stay in transit
// and all versions that were ever made.
type network struct {
	t     *testing.T
	next  func(n int) int
	names int
	sites []pair
	asks  []message[api.Ask]
	given []message[api.Batch]
	made  versions
}

type message[T any] struct {
	to   int
	what T
}

func newNetwork(t *testing.T, seed, names int) *network {
	n := &network{t: t, next: random(uint32(seed)), names: names}
	for me := range 5 {
		n.sites = append(n.sites, newPair(t, me, n.filter()))
	}
	return n
}

func (n *network) filter() boxes {
	l := someFilters()
	return l[n.next(len(l))]
}

func (n *network) point() api.Point {
	return api.Point{Tags: n.next(4), Num: 4 * n.next(8)}
}

func (n *network) name() string {
	i := n.next(n.names)
	return string([]byte{byte('a' + i/26), byte('a' + i%26)})
}

// step does one thing with one site. Messages are delivered in any order and
// several times, but recent ones more often, because many others are late.
func (n *network) step() {
	i := n.next(5)
	x := n.sites[i]
	switch c := n.next(40); {
	case c < 12:
		if x.make(n.t, n.name(), n.point(), n.next(1000001)) == api.OK {
			n.made = append(n.made, *n.newest(x))
		}
	case c == 12:
		x.want(n.t, n.filter())
	case c < 20:
		n.asks = append(n.asks, message[api.Ask]{(i + 1 + n.next(4)) % 5, x.s.Ask()})
	case c < 28:
		if k := len(n.asks); k > 0 {
			m := n.asks[k-1-n.next(1+n.next(k))]
			n.given = append(n.given, message[api.Batch]{m.what.Site, n.sites[m.to].give(n.t, m.what)})
		}
	default:
		if k := len(n.given); k > 0 {
			m := n.given[k-1-n.next(1+n.next(k))]
			n.sites[m.to].take(n.t, m.what)
		}
	}
}

// newest returns the version that a site made last.
func (n *network) newest(x pair) *api.Version {
	l := x.s.Shelf()
	i := slices.IndexFunc(l, func(v api.Version) bool { return v.Dot == dot(x.m.me, x.m.made) })
	return &l[i]
}

// superseded reports whether some version that was made supersedes v.
func (n *network) superseded(v api.Version) bool {
	return slices.ContainsFunc(n.made, func(x api.Version) bool { return supersedes(x, v) })
}

// wantSound checks that whatever a site knows for a point is stored or
// superseded.
func (n *network) wantSound() {
	n.t.Helper()
	for i, x := range n.sites {
		facts, store := factsOf(x.s.Parts()), x.s.Shelf()
		for _, v := range n.made {
			stored := slices.ContainsFunc(store, func(y api.Version) bool { return sameVersions(versions{y}, versions{v}) })
			if states(facts, v.Point, v.Dot) && !stored && !n.superseded(v) {
				n.t.Errorf("site %d knows %v, which it does not have", i, v)
			}
		}
	}
}

// P42 to P48: the sites do what their models do, whatever happens to the
// messages and however much there is.
func TestNetwork(t *testing.T) {
	for seed := range 24 {
		n := newNetwork(t, seed, []int{2, 5, 20, 200}[seed%4])
		for range 400 {
			n.step()
		}
		n.wantSound()
		if t.Failed() {
			t.Fatal("seed", seed)
		}
	}
}

// exchange lets site i learn from site k.
func (n *network) exchange(i, k int) {
	n.t.Helper()
	b := n.sites[k].give(n.t, n.sites[i].s.Ask())
	if e := n.sites[i].take(n.t, b); e != api.OK {
		n.t.Errorf("site %d from site %d: %v", i, k, e)
	}
}

// P42 to P48: after all sites have exchanged updates with one that wants
// everything, each has what it wants and its own, and nothing is left to send.
func TestEventually(t *testing.T) {
	for seed := range 24 {
		n := newNetwork(t, 1000+seed, 1+seed%8)
		for range 30 + 5*seed {
			n.step()
		}
		n.sites[4].want(t, filter.Every())
		for i := range 4 {
			n.exchange(4, i)
		}
		for i := range 4 {
			n.exchange(i, 4)
		}
		n.wantSound()
		for i, x := range n.sites {
			f := pointsOf(x.s.Filter())
			var want versions
			for _, v := range n.made {
				if !n.superseded(v) && (v.Dot.Site == i || f.has(v.Point)) {
					want, _ = put(want, v)
				}
			}
			wantVersions(t, "at the end", x.s.Shelf(), want)
			if b, e := n.sites[4].s.Give(x.s.Ask()); e != api.OK || len(b.Versions) != 0 {
				t.Errorf("site %d still gets %v, %v", i, b.Versions, e)
			}
		}
		if t.Failed() {
			t.Fatal("seed", seed)
		}
	}
}

// scattered are versions with few different dots, so that many supersede each
// other, in one direction or in both.
func scattered(next func(n int) int, n int) versions {
	var l versions
	for len(l) < n {
		var d dots
		for range next(6) {
			d.add(dot(next(5), 1+next(6)))
		}
		k, _ := knowOf(d)
		v := api.Version{Id: string([]byte{byte('a' + next(4))}), Dot: dot(next(5), 1+next(6)), Point: api.Point{Tags: next(16), Num: next(32)}, Body: next(1000001), Past: k}
		if !d.has(v.Dot) {
			l = append(l, v)
		}
	}
	return l
}

// P43 to P47: responses that no site gave.
func TestMadeUp(t *testing.T) {
	for seed := range 12 {
		next := random(uint32(seed))
		x := newPair(t, seed%5, filter.Every())
		for range 60 {
			b := api.Batch{Site: (seed + max(0, next(12)-8)) % 5, Stamp: max(0, x.m.stamp-max(0, next(8)-6)), Versions: scattered(next, next(12)*next(6)), Parts: singles(next(40), next(6))}
			for _, v := range scattered(next, next(3)) {
				b.Gone = append(b.Gone, api.Gone{Id: v.Id, Past: v.Past})
			}
			for range next(3) {
				v := scattered(next, 1)[0]
				l := someFilters()
				b.Parts = append(b.Parts, api.Part{Filter: l[next(len(l))], Know: v.Past})
			}
			x.take(t, b)
			switch next(6) {
			case 0:
				x.make(t, "a", num(next(32)), 7)
			case 1:
				l := someFilters()
				x.want(t, l[next(len(l))])
			case 2:
				l := someFilters()
				x.give(t, api.Ask{Site: next(5), Stamp: next(9), Filter: l[next(len(l))], Parts: b.Parts})
			}
		}
		if t.Failed() {
			t.Fatal("seed", seed)
		}
	}
}
