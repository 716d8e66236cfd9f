package shelf_test

import (
	"fmt"
	"math"
	"slices"
	"strings"
	"testing"

	"reedmace/api"
	"reedmace/know"
	"reedmace/shelf"
)

type versions = []api.Version

// in reports whether a set has a dot.
func in(k api.Know, d api.Dot) bool {
	return d.Site < len(k.Vec) && d.Count <= k.Vec[d.Site] || slices.Contains(k.More, d)
}

// supersedes follows the definition of the chapter word by word.
func supersedes(v, x api.Version) bool {
	return v.Id == x.Id && in(v.Past, x.Dot)
}

func less(a, b api.Version) bool {
	if a.Id != b.Id {
		return a.Id < b.Id
	}
	if a.Dot.Site != b.Dot.Site {
		return a.Dot.Site < b.Dot.Site
	}
	return a.Dot.Count < b.Dot.Count
}

func sorted(l versions) versions {
	return slices.SortedFunc(slices.Values(l), func(a, b api.Version) int {
		switch {
		case less(a, b):
			return -1
		case less(b, a):
			return 1
		}
		return 0
	})
}

// putModel follows P38 word by word.
func putModel(l versions, v api.Version) (versions, api.Errno) {
	r := versions{v}
	for _, x := range l {
		if x.Id == v.Id && x.Dot == v.Dot || supersedes(x, v) {
			return l, api.OK
		}
		if !supersedes(v, x) {
			r = append(r, x)
		}
	}
	if len(r) > 60 {
		return nil, api.ErrLarge
	}
	return sorted(r), api.OK
}

// pastModel follows P41 with a table of dots, in which count 0 stays unused.
func pastModel(l versions, id string) (api.Know, api.Errno) {
	var table [5][1001]bool
	for site := range table {
		for c := 1; c <= 1000; c++ {
			d := api.Dot{Site: site, Count: c}
			table[site][c] = slices.ContainsFunc(l, func(x api.Version) bool {
				return x.Id == id && (x.Dot == d || in(x.Past, d))
			})
		}
	}
	return setOf(&table)
}

func setOf(table *[5][1001]bool) (api.Know, api.Errno) {
	var k api.Know
	for site := range table {
		n := 0
		for n < 1000 && table[site][n+1] {
			n++
		}
		k.Vec = append(k.Vec, n)
		for c := n + 1; c <= 1000; c++ {
			if table[site][c] {
				k.More = append(k.More, api.Dot{Site: site, Count: c})
			}
		}
	}
	for len(k.Vec) > 0 && k.Vec[len(k.Vec)-1] == 0 {
		k.Vec = k.Vec[:len(k.Vec)-1]
	}
	if len(k.More) > 60 {
		return api.Know{}, api.ErrLarge
	}
	return k, api.OK
}

func sameKnow(a, b api.Know) bool {
	return slices.Equal(a.Vec, b.Vec) && slices.Equal(a.More, b.More)
}

func sameVersion(a, b api.Version) bool {
	return a.Id == b.Id && a.Dot == b.Dot && a.Point == b.Point && a.Body == b.Body && sameKnow(a.Past, b.Past)
}

func same(a, b versions) bool {
	return slices.EqualFunc(a, b, sameVersion)
}

func wantStore(t *testing.T, name string, r versions, e api.Errno, want versions, we api.Errno) {
	t.Helper()
	if !same(r, want) || e != we || shelf.Check(r) != api.OK {
		t.Errorf("%s = %v, %v, want %v, %v", name, r, e, want, we)
	}
}

func wantKnow(t *testing.T, name string, r api.Know, e api.Errno, want api.Know, we api.Errno) {
	t.Helper()
	if !sameKnow(r, want) || e != we {
		t.Errorf("%s = %v, %v, want %v, %v", name, r, e, want, we)
	}
}

func dot(site, count int) api.Dot {
	return api.Dot{Site: site, Count: count}
}

func vec(l ...int) api.Know {
	return api.Know{Vec: l}
}

func more(l ...api.Dot) api.Know {
	return api.Know{More: l}
}

func of(id string, d api.Dot, past api.Know) api.Version {
	return api.Version{Id: id, Dot: d, Point: api.Point{Tags: d.Site, Num: d.Count % 32}, Body: d.Count, Past: past}
}

// series returns n dots of a site, from a count on, at a distance from each
// other.
func series(site, first, step, n int) []api.Dot {
	var l []api.Dot
	for i := range n {
		l = append(l, dot(site, first+i*step))
	}
	return l
}

// row is a store of n versions of an object, none of which knows another one.
func row(id string, l ...api.Dot) versions {
	var r versions
	for _, d := range l {
		r = append(r, of(id, d, api.Know{}))
	}
	return r
}

// random returns numbers that look random and are the same in every run.
func random(seed uint32) func(n int) int {
	return func(n int) int {
		seed = seed*1664525 + 1013904223
		return int(seed>>8) % n
	}
}

// names are valid names in which one is the beginning of others.
func names() []string {
	return []string{"a", "aa", "ab", "b", "zzzzzzzz"}
}

// scattered are versions with few different dots, so that many supersede each
// other, in one direction or in both.
func scattered(seed uint32, n int) versions {
	next, ids := random(seed), names()
	var l versions
	for len(l) < n {
		var k api.Know
		for range next(4) {
			k, _ = know.Join(k, vec([][]int{{1}, {0, 2}, {2, 1}, {0, 0, 0, 0, 3}}[next(4)]...))
		}
		for range next(5) {
			k, _ = know.Add(k, dot(next(5), 1+next(7)))
		}
		v := api.Version{Id: ids[next(5)], Dot: dot(next(5), 1+next(6)), Point: api.Point{Tags: next(16), Num: next(32)}, Body: next(1000001), Past: k}
		if !in(k, v.Dot) {
			l = append(l, v)
		}
	}
	return l
}

// stores are valid by construction: of the empty one, of one object and of
// several, up to the limit.
func stores() []versions {
	l := []versions{
		nil,
		{},
		row("a", dot(0, 1)),
		row("a", series(0, 1, 1, 60)...),
		row("ab", append(series(1, 2, 2, 30), series(4, 941, 2, 30)...)...),
		append(row("a", series(0, 1, 1, 30)...), row("b", series(0, 1, 1, 30)...)...),
	}
	for seed := range 30 {
		var s versions
		for _, v := range scattered(uint32(seed), 3+4*seed) {
			if r, e := putModel(s, v); e == api.OK {
				s = r
			}
		}
		l = append(l, s)
	}
	return l
}

// P35
func TestId(t *testing.T) {
	for n := range 12 {
		s := strings.Repeat("k", n)
		if is := shelf.Id(s); is != (n >= 1 && n <= 8) {
			t.Errorf("Id(%q) = %v", s, is)
		}
		for i := range n {
			for b := range 256 {
				s := s[:i] + string([]byte{byte(b)}) + s[i+1:]
				if is := shelf.Id(s); is != (n <= 8 && b >= 'a' && b <= 'z') {
					t.Errorf("Id(%q) = %v", s, is)
				}
			}
		}
	}
	for _, s := range []string{"ä", "aä", "éa", "\u0061", "ａ", "a\x00", " a", "a ", "A", "aBc", "a1", "a-b", "\xff\xfe", strings.Repeat("a", 100000)} {
		if is := shelf.Id(s); is != (s == "a") {
			t.Errorf("Id(%q) = %v", s, is)
		}
	}
	for _, s := range []string{"a", "z", "az", "abcdefgh", "zyxwvuts", "aaaaaaaa", "zzzzzzzz"} {
		if !shelf.Id(s) {
			t.Errorf("Id(%q) = false", s)
		}
	}
}

// badVersion is an invalid version, with its error.
type badVersion struct {
	v api.Version
	e api.Errno
}

// with returns a valid version that is changed.
func with(change func(v *api.Version)) api.Version {
	v := api.Version{Id: "name", Dot: dot(1, 5), Point: api.Point{Tags: 3, Num: 7}, Body: 9, Past: vec(2, 3)}
	change(&v)
	return v
}

func badIds() []string {
	return []string{"", "A", "aaaaaaaaa", "a b", "a1", "ä", "{", "`"}
}

func badDots() []api.Dot {
	return []api.Dot{{}, {Site: 1}, dot(-1, 1), dot(5, 1), dot(0, -1), dot(0, 1001), dot(math.MinInt, math.MaxInt), dot(math.MaxInt, math.MinInt)}
}

func badPoints() []api.Point {
	return []api.Point{{Tags: -1}, {Tags: 16}, {Num: -1}, {Num: 32}, {Tags: math.MinInt}, {Num: math.MaxInt}}
}

func badKnows() []struct {
	k api.Know
	e api.Errno
} {
	return []struct {
		k api.Know
		e api.Errno
	}{
		{vec(1, 1, 1, 1, 1, 1), api.ErrLarge},
		{more(series(0, 2, 2, 61)...), api.ErrLarge},
		{vec(-1), api.ErrArg},
		{vec(1001), api.ErrArg},
		{vec(0), api.ErrForm},
		{vec(2, 0), api.ErrForm},
		{more(dot(5, 2)), api.ErrArg},
		{more(dot(0, 1)), api.ErrForm},
		{more(dot(0, 3), dot(0, 3)), api.ErrForm},
	}
}

func badVersions() []badVersion {
	var l []badVersion
	add := func(e api.Errno, change func(v *api.Version)) { l = append(l, badVersion{with(change), e}) }
	for _, id := range badIds() {
		add(api.ErrForm, func(v *api.Version) { v.Id = id })
		// The name comes first.
		add(api.ErrForm, func(v *api.Version) { v.Id, v.Dot = id, api.Dot{} })
		add(api.ErrForm, func(v *api.Version) { v.Id, v.Point.Tags = id, 16 })
		add(api.ErrForm, func(v *api.Version) { v.Id, v.Body = id, -1 })
		add(api.ErrForm, func(v *api.Version) { v.Id, v.Past = id, vec(1001) })
	}
	for _, d := range badDots() {
		add(api.ErrArg, func(v *api.Version) { v.Dot = d })
	}
	for _, p := range badPoints() {
		add(api.ErrArg, func(v *api.Version) { v.Point = p })
	}
	for _, n := range []int{-1, 1000001, math.MinInt, math.MaxInt} {
		add(api.ErrArg, func(v *api.Version) { v.Body = n })
	}
	for _, k := range badKnows() {
		add(k.e, func(v *api.Version) { v.Past = k.k })
		// What is out of bounds comes ahead of Past.
		add(api.ErrArg, func(v *api.Version) { v.Past, v.Dot = k.k, api.Dot{} })
		add(api.ErrArg, func(v *api.Version) { v.Past, v.Point.Num = k.k, 32 })
		add(api.ErrArg, func(v *api.Version) { v.Past, v.Body = k.k, 1000001 })
	}
	// A version that knows itself; a set that is not valid comes ahead of it.
	add(api.ErrForm, func(v *api.Version) { v.Dot = dot(1, 3) })
	add(api.ErrForm, func(v *api.Version) { v.Dot = dot(0, 1) })
	add(api.ErrForm, func(v *api.Version) { v.Past = more(dot(0, 2), dot(1, 5)) })
	add(api.ErrForm, func(v *api.Version) { v.Past = vec(1000, 1000, 1000, 1000, 1000) })
	add(api.ErrLarge, func(v *api.Version) { v.Past = vec(5, 5, 5, 5, 5, 5) })
	add(api.ErrArg, func(v *api.Version) { v.Past = vec(5, 5, 5, 5, 1001) })
	return l
}

func goodVersions() versions {
	return append(scattered(7, 100),
		api.Version{Id: "a", Dot: dot(0, 1)},
		api.Version{Id: "zzzzzzzz", Dot: dot(4, 1000), Point: api.Point{Tags: 15, Num: 31}, Body: 1000000, Past: vec(1000, 1000, 1000, 1000, 999)},
		with(func(v *api.Version) { v.Past = more(series(1, 7, 2, 60)...) }),
		with(func(v *api.Version) { v.Past = more(dot(1, 4), dot(1, 6), dot(2, 5)) }),
		with(func(v *api.Version) { v.Past = vec(1000, 4, 1000) }),
		with(func(v *api.Version) { v.Body = 0 }))
}

// P36
func TestOne(t *testing.T) {
	for _, v := range goodVersions() {
		if e := shelf.One(v); e != api.OK {
			t.Errorf("One(%v) = %v", v, e)
		}
	}
	for _, b := range badVersions() {
		if e := shelf.One(b.v); e != b.e {
			t.Errorf("One(%v) = %v, want %v", b.v, e, b.e)
		}
	}
}

// badStore is an invalid store, with its error.
type badStore struct {
	l versions
	e api.Errno
}

func badStores() []badStore {
	a, b, c := of("a", dot(0, 1), api.Know{}), of("a", dot(1, 1), api.Know{}), of("b", dot(0, 1), api.Know{})
	knowsA, knowsB := of("a", dot(2, 1), vec(1)), of("a", dot(0, 2), api.Know{Vec: []int{0, 1}, More: []api.Dot{dot(1, 3)}})
	sameDot := of("a", dot(0, 1), vec(0, 7))
	noName, noDot := of("A", dot(0, 1), api.Know{}), of("a", dot(0, 0), api.Know{})
	full := row("a", series(0, 1, 1, 59)...)
	l := []badStore{
		{row("a", series(0, 1, 1, 61)...), api.ErrLarge},
		{make(versions, 61), api.ErrLarge},
		{slices.Repeat(versions{noDot}, 200), api.ErrLarge},
		{append(row("a", series(0, 1, 1, 60)...), noDot), api.ErrLarge},

		// Not in order, or twice the same name and dot.
		{versions{b, a}, api.ErrForm},
		{versions{c, a}, api.ErrForm},
		{versions{a, a}, api.ErrForm},
		{versions{a, sameDot}, api.ErrForm},
		{versions{a, c, b}, api.ErrForm},
		{row("a", dot(0, 2), dot(0, 1)), api.ErrForm},
		{row("a", dot(0, 9), dot(0, 10), dot(0, 10)), api.ErrForm},
		{row("a", dot(1, 1), dot(0, 9)), api.ErrForm},
		{append(row("b", dot(0, 1)), row("ab", dot(1, 9))...), api.ErrForm},
		{append(row("aa", dot(0, 1)), row("a", dot(1, 9))...), api.ErrForm},

		// One supersedes another one, ahead of it or behind it.
		{versions{a, b, knowsA}, api.ErrOld},
		{versions{a, knowsA}, api.ErrOld},
		{versions{knowsB, b}, api.ErrOld},
		{versions{a, knowsB, b, c}, api.ErrOld},
		{versions{knowsB, b, knowsA}, api.ErrOld},
		{versions{of("a", dot(0, 1), vec(0, 1)), of("a", dot(1, 1), vec(1))}, api.ErrOld},
		{append(slices.Clone(full), of("a", dot(4, 1), more(dot(0, 59)))), api.ErrOld},
		{append(slices.Clone(full), of("a", dot(4, 1), vec(1))), api.ErrOld},

		// Of one version the error of One comes first; of several, the first
		// version; a version that is superseded comes last.
		{versions{noName, a}, api.ErrForm},
		{versions{noDot, noName}, api.ErrArg},
		{versions{noName, noDot}, api.ErrForm},
		{versions{b, noDot}, api.ErrArg},
		{versions{b, a, noDot}, api.ErrForm},
		{versions{a, knowsA, noDot}, api.ErrArg},
		{versions{a, knowsA, b}, api.ErrForm},
		{append(slices.Clone(full), noName), api.ErrForm},
	}
	for _, x := range badVersions() {
		l = append(l, badStore{versions{x.v}, x.e}, badStore{versions{a, x.v, a}, x.e})
	}
	return l
}

// P37
func TestCheck(t *testing.T) {
	good := append(stores(),
		row("a", dot(0, 2), dot(0, 10), dot(1, 1), dot(4, 1000)),
		slices.Concat(row("a", dot(4, 9)), row("aa", dot(0, 1)), row("ab", dot(0, 1)), row("b", dot(0, 1))),
		// Past has the dots of other objects, or others of this object.
		versions{of("a", dot(0, 1), vec(0, 9)), of("b", dot(1, 1), vec(9))},
		versions{of("a", dot(0, 2), more(dot(1, 2))), of("a", dot(1, 1), vec(1)), of("a", dot(1, 3), vec(1))},
		// The same dot in several objects.
		versions{of("a", dot(0, 1), api.Know{}), of("b", dot(0, 1), api.Know{}), of("c", dot(0, 2), vec(1))})
	for _, l := range good {
		if e := shelf.Check(l); e != api.OK {
			t.Errorf("Check(%v) = %v", l, e)
		}
	}
	for _, v := range goodVersions() {
		if e := shelf.Check(versions{v}); e != api.OK {
			t.Errorf("Check of %v = %v", v, e)
		}
	}
	for _, b := range badStores() {
		if e := shelf.Check(b.l); e != b.e {
			t.Errorf("Check(%v) = %v, want %v", b.l, e, b.e)
		}
	}
}

// P37: of two versions in both orders, and of one twice, at most one order is
// valid.
func TestCheckPairs(t *testing.T) {
	l := scattered(3, 150)
	for _, x := range l {
		for _, y := range l {
			want := api.OK
			if !less(x, y) {
				want = api.ErrForm
			} else if supersedes(x, y) || supersedes(y, x) {
				want = api.ErrOld
			}
			if e := shelf.Check(versions{x, y}); e != want {
				t.Errorf("Check(%v, %v) = %v, want %v", x, y, e, want)
			}
		}
	}
}

// P37: the error of Check comes first, and nothing else comes with it.
func TestErrors(t *testing.T) {
	for _, b := range badStores() {
		for _, v := range []api.Version{of("a", dot(0, 1), api.Know{}), of("a", dot(3, 1), vec(1000, 1000, 1000)), {}, {Id: "a"}} {
			if r, e := shelf.Put(b.l, v); len(r) != 0 || e != b.e {
				t.Errorf("Put(%v, %v) = %v, %v, want %v", b.l, v, r, e, b.e)
			}
			if r, e := shelf.Drop(b.l, api.Gone{Id: v.Id, Past: v.Past}); len(r) != 0 || e != b.e {
				t.Errorf("Drop(%v, %v) = %v, %v, want %v", b.l, v, r, e, b.e)
			}
		}
		if r, e := shelf.Drop(b.l, api.Gone{Id: "a", Past: vec(1001)}); len(r) != 0 || e != b.e {
			t.Errorf("Drop(%v) = %v, %v, want %v", b.l, r, e, b.e)
		}
		for _, id := range []string{"a", "b", "none", "", "A"} {
			if r, e := shelf.Get(b.l, id); len(r) != 0 || e != b.e {
				t.Errorf("Get(%v, %q) = %v, %v, want %v", b.l, id, r, e, b.e)
			}
			r, e := shelf.Past(b.l, id)
			wantKnow(t, "Past", r, e, api.Know{}, b.e)
		}
	}
}

// P38
func TestPut(t *testing.T) {
	for i, l := range stores() {
		for _, v := range slices.Concat(scattered(uint32(100+i), 150), goodVersions(), l) {
			r, e := shelf.Put(l, v)
			want, we := putModel(l, v)
			wantStore(t, "Put", r, e, want, we)
		}
	}
}

// P38
func TestPutCases(t *testing.T) {
	a, b, c := of("a", dot(0, 2), api.Know{}), of("a", dot(1, 1), api.Know{}), of("b", dot(0, 2), api.Know{})
	for _, x := range []struct {
		l    versions
		v    api.Version
		want versions
	}{
		{nil, a, versions{a}},
		{versions{b}, a, versions{a, b}},
		{versions{a}, b, versions{a, b}},
		{versions{c}, a, versions{a, c}},
		{versions{a}, c, versions{a, c}},
		{versions{a, c}, b, versions{a, b, c}},
		// The example: a version replaces the versions that it supersedes.
		{versions{a, b, c}, of("a", dot(2, 1), vec(2, 1)), versions{of("a", dot(2, 1), vec(2, 1)), c}},
		{versions{a, b, c}, of("a", dot(0, 1), vec(0, 1)), versions{of("a", dot(0, 1), vec(0, 1)), a, c}},
		{versions{a, b, c}, of("a", dot(3, 1), more(dot(0, 2))), versions{b, of("a", dot(3, 1), more(dot(0, 2))), c}},
		{versions{a, b, c}, of("b", dot(3, 1), vec(2, 1)), versions{a, b, of("b", dot(3, 1), vec(2, 1))}},
		{versions{a, b, c}, of("c", dot(3, 1), vec(2, 1)), versions{a, b, c, of("c", dot(3, 1), vec(2, 1))}},
		// A version with this name and dot stays as it is, and keeps out one
		// that would supersede others.
		{versions{a, b, c}, api.Version{Id: "a", Dot: dot(0, 2), Point: api.Point{Num: 31}, Body: 1000000, Past: vec(0, 9)}, versions{a, b, c}},
		// So does one that supersedes the new one, though the new one supersedes
		// it, or another one.
		{versions{of("a", dot(0, 1), vec(0, 1))}, of("a", dot(1, 1), api.Know{}), versions{of("a", dot(0, 1), vec(0, 1))}},
		{versions{of("a", dot(0, 1), vec(0, 1))}, of("a", dot(1, 1), vec(1)), versions{of("a", dot(0, 1), vec(0, 1))}},
		{versions{of("a", dot(0, 1), vec(0, 1)), c}, of("a", dot(1, 1), vec(1)), versions{of("a", dot(0, 1), vec(0, 1)), c}},
		{versions{a, of("a", dot(3, 1), more(dot(2, 5)))}, of("a", dot(2, 5), vec(9)), versions{a, of("a", dot(3, 1), more(dot(2, 5)))}},
		{versions{of("b", dot(0, 1), vec(0, 1))}, of("a", dot(1, 1), vec(1)), versions{of("a", dot(1, 1), vec(1)), of("b", dot(0, 1), vec(0, 1))}},
	} {
		r, e := shelf.Put(x.l, x.v)
		wantStore(t, "Put", r, e, x.want, api.OK)
	}
}

// P38: the error of One.
func TestPutErrors(t *testing.T) {
	for _, l := range []versions{nil, row("a", dot(0, 1)), row("name", dot(1, 5)), row("name", series(1, 1, 1, 60)...)} {
		for _, b := range badVersions() {
			if r, e := shelf.Put(l, b.v); len(r) != 0 || e != b.e {
				t.Errorf("Put(%v, %v) = %v, %v, want %v", l, b.v, r, e, b.e)
			}
		}
	}
}

// P38: only a sixty-first version is too much, not one that is there already,
// that is superseded, or that supersedes another one.
func TestPutLarge(t *testing.T) {
	full := append(row("m", series(0, 1, 1, 59)...), of("m", dot(2, 5), vec(0, 7)))
	for _, c := range []struct {
		v    api.Version
		want int
	}{
		{of("m", dot(0, 60), api.Know{}), 61},
		{of("m", dot(4, 1), more(dot(0, 60))), 61},
		{of("a", dot(4, 1), vec(60)), 61},
		{of("z", dot(4, 1), vec(60)), 61},
		{of("m", dot(0, 60), more(dot(2, 5))), 60},
		{of("m", dot(4, 1), more(dot(0, 30))), 60},
		{of("m", dot(4, 1), vec(2)), 59},
		{of("m", dot(4, 1), vec(1000, 0, 1000)), 1},
		{of("m", dot(0, 59), vec(58)), 60},
		{of("m", dot(1, 7), vec(58)), 60},
		{of("m", dot(1, 7), api.Know{}), 60},
	} {
		r, e := shelf.Put(full, c.v)
		want, we := putModel(full, c.v)
		if wantLarge := c.want == 61; wantLarge != (we == api.ErrLarge) || !wantLarge && len(want) != c.want {
			t.Fatalf("the case of %v is wrong", c.v)
		}
		wantStore(t, "Put", r, e, want, we)
	}
	r, e := shelf.Put(full[1:], full[0])
	wantStore(t, "Put of a sixtieth version", r, e, full, api.OK)
}

// history is what sites make when each of them gets some of the versions of the
// others: a version knows all that are known to those that it replaces.
func history(t *testing.T, seed uint32, n int) versions {
	next := random(seed)
	var all versions
	var seen [5]versions
	for i := range n {
		site := next(5)
		for range next(4) {
			if len(all) > 0 {
				seen[site], _ = shelf.Put(seen[site], all[next(len(all))])
			}
		}
		id := []string{"a", "b"}[next(2)]
		past, e := shelf.Past(seen[site], id)
		if e != api.OK {
			t.Fatal(e)
		}
		v := of(id, dot(site, i+1), past)
		all = append(all, v)
		seen[site], _ = shelf.Put(seen[site], v)
	}
	return all
}

// P38: the order and the repetition of updates have no effect on a store.
func TestPutOrder(t *testing.T) {
	for seed := range 30 {
		next, all := random(uint32(seed)), history(t, uint32(seed), 40)
		want := sorted(slices.DeleteFunc(slices.Clone(all), func(x api.Version) bool {
			return slices.ContainsFunc(all, func(v api.Version) bool { return supersedes(v, x) })
		}))
		for range 10 {
			l := slices.Concat(all, all[:next(len(all))])
			for i := range l {
				k := i + next(len(l)-i)
				l[i], l[k] = l[k], l[i]
			}
			var s versions
			for _, v := range l {
				var e api.Errno
				if s, e = shelf.Put(s, v); e != api.OK {
					t.Fatal(e)
				}
			}
			wantStore(t, "the versions in some order", s, api.OK, want, api.OK)
		}
	}
}

// someKnows are sets of dots to drop.
func someKnows() []api.Know {
	l := []api.Know{
		{},
		vec(1),
		vec(0, 3),
		vec(2, 0, 0, 0, 1),
		vec(1000, 1000, 1000, 1000, 1000),
		more(dot(0, 2), dot(4, 1000)),
		more(series(0, 2, 1, 60)...),
		{Vec: []int{0, 60}, More: series(4, 943, 4, 14)},
	}
	for _, v := range scattered(55, 20) {
		l = append(l, v.Past)
	}
	return l
}

// P39
func TestDrop(t *testing.T) {
	for _, l := range stores() {
		for _, id := range append(names(), "none") {
			for _, k := range someKnows() {
				want := slices.DeleteFunc(slices.Clone(l), func(x api.Version) bool { return x.Id == id && in(k, x.Dot) })
				r, e := shelf.Drop(l, api.Gone{Id: id, Past: k})
				wantStore(t, "Drop", r, e, want, api.OK)
			}
		}
	}
}

// P39: what a version knows plays no part, only its name and its dot.
func TestDropCases(t *testing.T) {
	a, b, c := of("a", dot(0, 2), vec(0, 0, 5)), of("a", dot(1, 1), api.Know{}), of("b", dot(0, 2), api.Know{})
	l := versions{a, b, c}
	for _, x := range []struct {
		id   string
		k    api.Know
		want versions
	}{
		{"a", vec(2), versions{b, c}},
		{"a", vec(1, 1), versions{a, c}},
		{"a", vec(2, 1), versions{c}},
		{"a", more(dot(0, 2)), versions{b, c}},
		{"a", vec(0, 0, 5), l},
		{"a", vec(1), l},
		{"a", api.Know{}, l},
		{"b", vec(2, 1), versions{a, b}},
		{"c", vec(2, 1), l},
		{"aa", vec(2, 1), l},
	} {
		r, e := shelf.Drop(l, api.Gone{Id: x.id, Past: x.k})
		wantStore(t, "Drop", r, e, x.want, api.OK)
	}
	r, e := shelf.Drop(nil, api.Gone{Id: "a", Past: vec(2)})
	wantStore(t, "Drop from nothing", r, e, nil, api.OK)
}

// P39: the name comes ahead of the set.
func TestDropErrors(t *testing.T) {
	want := func(l versions, id string, k api.Know, want api.Errno) {
		t.Helper()
		if r, e := shelf.Drop(l, api.Gone{Id: id, Past: k}); len(r) != 0 || e != want {
			t.Errorf("Drop(%v, %q, %v) = %v, %v, want %v", l, id, k, r, e, want)
		}
	}
	for _, l := range []versions{nil, row("a", dot(0, 1)), row("b", series(0, 1, 1, 60)...)} {
		for _, id := range badIds() {
			want(l, id, api.Know{}, api.ErrForm)
			want(l, id, vec(1), api.ErrForm)
			want(l, id, vec(1001), api.ErrForm)
		}
		for _, k := range badKnows() {
			want(l, "a", k.k, k.e)
			want(l, "none", k.k, k.e)
		}
	}
}

// P40
func TestGet(t *testing.T) {
	for _, l := range stores() {
		for _, id := range append(names(), "none", "aaa", "", "A", "aaaaaaaaa") {
			var want versions
			for _, x := range l {
				if x.Id == id {
					want = append(want, x)
				}
			}
			we := api.OK
			if len(want) == 0 {
				we = api.ErrNone
			}
			r, e := shelf.Get(l, id)
			wantStore(t, "Get", r, e, want, we)
		}
	}
}

// P41
func TestPast(t *testing.T) {
	for _, l := range stores() {
		for _, id := range append(names(), "none", "", "A") {
			want, we := pastModel(l, id)
			r, e := shelf.Past(l, id)
			wantKnow(t, "Past", r, e, want, we)
		}
	}
}

// P41
func TestPastCases(t *testing.T) {
	a, b, c := of("a", dot(0, 2), vec(0, 0, 5)), of("a", dot(1, 1), more(dot(0, 7))), of("b", dot(0, 2), vec(1))
	for _, x := range []struct {
		l    versions
		id   string
		want api.Know
	}{
		{nil, "a", api.Know{}},
		{versions{a, b, c}, "c", api.Know{}},
		{versions{a, b, c}, "", api.Know{}},
		{versions{a, b, c}, "a", api.Know{Vec: []int{0, 1, 5}, More: []api.Dot{dot(0, 2), dot(0, 7)}}},
		{versions{a, c}, "a", api.Know{Vec: []int{0, 0, 5}, More: []api.Dot{dot(0, 2)}}},
		{versions{a, b, c}, "b", vec(2)},
		// The greater count of each site.
		{versions{of("a", dot(3, 1), vec(5, 2)), of("a", dot(4, 1), vec(3, 6))}, "a", vec(5, 6, 0, 1, 1)},
		{row("a", dot(0, 1), dot(0, 2), dot(0, 3), dot(0, 5)), "a", api.Know{Vec: []int{3}, More: []api.Dot{dot(0, 5)}}},
		{row("a", series(4, 941, 1, 60)...), "a", more(series(4, 941, 1, 60)...)},
	} {
		r, e := shelf.Past(x.l, x.id)
		wantKnow(t, "Past", r, e, x.want, api.OK)
	}
}

// P41: what counts is how many exceptions the whole union has, not those of the
// sets of some of the versions.
func TestPastLarge(t *testing.T) {
	evens, odds := more(series(0, 2, 2, 60)...), api.Know{More: series(0, 3, 2, 59)}
	for _, c := range []struct {
		l versions
		n int // exceptions of the union
	}{
		{row("a", series(0, 2, 1, 60)...), 60},
		{row("a", append(series(0, 2, 2, 30), series(3, 2, 2, 30)...)...), 60},
		{versions{of("a", dot(1, 1), evens)}, 60},
		{versions{of("a", dot(1, 2), evens)}, 61},
		{versions{of("a", dot(0, 122), evens)}, 61},
		{versions{of("a", dot(0, 1), evens)}, 59},
		{versions{of("a", dot(1, 1), evens), of("a", dot(2, 1), evens)}, 60},
		{versions{of("a", dot(1, 1), evens), of("b", dot(2, 2), evens)}, 60},
		{versions{of("a", dot(1, 1), evens), of("a", dot(2, 1), more(series(0, 4, 2, 60)...))}, 61},
		{append(row("a", series(1, 2, 2, 59)...), of("a", dot(2, 1), more(dot(0, 2), dot(0, 3)))), 61},
		// Past the limit are the sets of the first or of the last versions, and
		// not the union, because others fill the gaps.
		{versions{of("a", dot(1, 2), evens), of("a", dot(3, 1), vec(120))}, 1},
		{versions{of("a", dot(0, 200), vec(120)), of("a", dot(1, 2), evens)}, 2},
		{versions{of("a", dot(1, 2), evens), of("a", dot(2, 1), odds), of("a", dot(3, 1), vec(1))}, 1},
		{versions{of("a", dot(0, 1), api.Know{}), of("a", dot(1, 1), evens), of("a", dot(2, 1), odds)}, 0},
		{versions{of("a", dot(1, 3), evens), of("a", dot(1, 5), api.Know{}), of("a", dot(2, 1), odds), of("a", dot(3, 1), vec(1))}, 2},
		{versions{of("a", dot(1, 3), odds), of("a", dot(1, 5), vec(1)), of("a", dot(1, 7), api.Know{}), of("a", dot(2, 1), evens)}, 3},
		{versions{of("a", dot(1, 1), evens), of("a", dot(2, 1), odds)}, 119},
		{versions{of("a", dot(0, 300), evens), of("a", dot(0, 400), evens), of("a", dot(4, 1), vec(120))}, 2},
	} {
		if e := shelf.Check(c.l); e != api.OK {
			t.Fatalf("the case %v is wrong: %v", c.l, e)
		}
		want, we := pastModel(c.l, "a")
		if (c.n > 60) != (we == api.ErrLarge) || c.n <= 60 && len(want.More) != c.n {
			t.Fatalf("the case %v is wrong: %v, %v", c.l, want, we)
		}
		r, e := shelf.Past(c.l, "a")
		wantKnow(t, "Past", r, e, want, we)
	}
}

const filler = -7

// whole returns a view of everything that a store has in memory, including
// spare capacity.
func whole(l versions) versions {
	r := slices.Clone(l[:cap(l)])
	for i := range r {
		r[i].Past = wholeKnow(r[i].Past)
	}
	return r
}

func wholeKnow(k api.Know) api.Know {
	return api.Know{Vec: k.Vec[:cap(k.Vec)], More: k.More[:cap(k.More)]}
}

// picture is equal for two stores only if everything in their memory is.
func picture(l versions) string {
	return fmt.Sprint(l, whole(l))
}

func pictureOfKnow(k api.Know) string {
	return fmt.Sprint(k, wholeKnow(k))
}

func overwrite(l versions) {
	for _, v := range whole(l) {
		overwriteKnow(v.Past)
	}
	l = l[:cap(l)]
	for i := range l {
		l[i] = of("filler", dot(filler, filler), vec(filler))
	}
}

func overwriteKnow(k api.Know) {
	k = wholeKnow(k)
	for i := range k.Vec {
		k.Vec[i] = filler
	}
	for i := range k.More {
		k.More[i] = dot(filler, filler)
	}
}

// room returns a copy of l with spare capacity, in which x is written.
func room[T any](l []T, x T) []T {
	return append(slices.Clone(l), slices.Repeat([]T{x}, 8)...)[:len(l)]
}

func roomyKnow(k api.Know) api.Know {
	return api.Know{Vec: room(k.Vec, filler), More: room(k.More, dot(filler, filler))}
}

// roomy returns a copy of l with spare capacity everywhere.
func roomy(l versions) versions {
	r := room(l, of("spare", dot(1, 1), vec(9)))[:len(l)+1]
	for i := range r {
		r[i].Past = roomyKnow(r[i].Past)
	}
	return r[:len(l)]
}

// testMemory checks that arguments and their spare capacity stay as they are,
// and that a result keeps its value when arguments and other results are
// overwritten, as do versions of it when others are.
func testMemory(t *testing.T, name string, l versions, v api.Version, op func(l versions, v api.Version) (versions, api.Errno)) {
	t.Helper()
	x, y := roomy(l), roomy(versions{v})
	beforeX, beforeY := picture(x), picture(y)
	r, _ := op(x, y[0])
	again, _ := op(x, y[0])
	want := picture(r)
	overwrite(again)
	if picture(x) != beforeX || picture(y) != beforeY || picture(r) != want {
		t.Errorf("%s(%v, %v) changes or shares memory", name, l, v)
	}
	overwrite(x)
	overwrite(y)
	if picture(r) != want {
		t.Errorf("%s(%v, %v) keeps an argument", name, l, v)
	}
	// What is behind the end of a result is written before what is in it.
	for i := cap(r) - 1; i >= 0; i-- {
		kept := picture(r[:i:i])
		overwrite(r[:cap(r)][i : i+1 : i+1])
		if picture(r[:i:i]) != kept {
			t.Errorf("%s(%v, %v): version %d shares memory with an earlier one", name, l, v, i)
		}
	}
}

func memoryStores() []versions {
	return append(stores()[6:14],
		nil,
		row("a", append(series(0, 1, 1, 10), series(4, 941, 2, 10)...)...),
		versions{of("a", dot(1, 1), more(series(0, 2, 2, 60)...)), of("a", dot(2, 3), vec(3)), of("b", dot(2, 1), api.Know{Vec: []int{3, 0, 0, 0, 2}, More: series(0, 5, 1, 9)})})
}

func memoryVersions() versions {
	return append(scattered(21, 30),
		of("a", dot(4, 900), vec(1000, 1000, 1000, 1000)),
		of("b", dot(4, 900), api.Know{Vec: []int{2, 0, 2}, More: series(4, 2, 2, 50)}),
		of("c", dot(0, 1), api.Know{}),
		api.Version{})
}

// P2
func TestMemory(t *testing.T) {
	for _, l := range memoryStores() {
		for _, v := range append(memoryVersions(), l...) {
			testMemory(t, "Put", l, v, shelf.Put)
			testMemory(t, "Drop", l, v, func(l versions, v api.Version) (versions, api.Errno) {
				return shelf.Drop(l, api.Gone{Id: v.Id, Past: v.Past})
			})
			testMemory(t, "Get", l, v, func(l versions, v api.Version) (versions, api.Errno) {
				return shelf.Get(l, v.Id)
			})
		}
	}
}

// P2, for a version that is put into the store that it is in, for Past, and for
// the functions that return no list.
func TestMemoryOfOthers(t *testing.T) {
	for _, l := range memoryStores() {
		x := roomy(l)
		before := picture(x)
		for _, v := range x {
			shelf.One(v)
			r, e := shelf.Put(x, v)
			wantStore(t, "Put", r, e, l, api.OK)
			overwrite(r)
		}
		shelf.Check(x)
		for _, id := range append(names(), "none") {
			k, _ := shelf.Past(x, id)
			again, _ := shelf.Past(x, id)
			want := pictureOfKnow(k)
			overwriteKnow(again)
			if picture(x) != before || pictureOfKnow(k) != want {
				t.Errorf("Past(%v, %q) changes or shares memory", l, id)
			}
			y := roomy(l)
			k, _ = shelf.Past(y, id)
			overwrite(y)
			if pictureOfKnow(k) != want {
				t.Errorf("Past(%v, %q) keeps an argument", l, id)
			}
		}
		if picture(x) != before {
			t.Errorf("a function changes %v", l)
		}
	}
}

// P1: a panic ends the test, so it is enough to call everything. Whatever the
// arguments, a result is valid.
func TestNoPanic(t *testing.T) {
	wantValid := func(l versions, e api.Errno) {
		t.Helper()
		if c := shelf.Check(l); c != api.OK || e != api.OK && len(l) > 0 {
			t.Errorf("a result is %v, %v: %v", l, e, c)
		}
	}
	edges := []int{math.MinInt, -1 << 32, -1, 0, 1, 2, 5, 16, 31, 32, 1000, 1001, 1000000, 1 << 32, math.MaxInt}
	for _, x := range edges {
		for _, y := range edges {
			d := dot(x, y)
			v := api.Version{Id: "a", Dot: d, Point: api.Point{Tags: y, Num: x}, Body: x}
			for _, k := range []api.Know{{}, vec(x, y), more(d), {Vec: []int{y}, More: []api.Dot{d, d}}} {
				w := of("a", dot(1, 1), k)
				for _, l := range []versions{nil, {v}, {w}, {v, w}, row("a", series(0, 1, 1, 60)...), slices.Repeat(versions{w}, 70)} {
					for _, id := range []string{"a", "", "\xff"} {
						shelf.Id(id)
						shelf.One(api.Version{Id: id, Dot: d, Past: k})
						wantValid(shelf.Put(l, api.Version{Id: id, Dot: d, Past: k}))
						wantValid(shelf.Drop(l, api.Gone{Id: id, Past: k}))
						wantValid(shelf.Get(l, id))
						if k, e := shelf.Past(l, id); know.Check(k) != api.OK || e != api.OK && !sameKnow(k, api.Know{}) {
							t.Errorf("Past(%v, %q) = %v, %v", l, id, k, e)
						}
					}
					wantValid(shelf.Put(l, v))
					wantValid(shelf.Put(l, w))
				}
			}
		}
	}
}
