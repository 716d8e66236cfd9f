package know_test

import (
	"math"
	"slices"
	"testing"

	"reedmace/api"
	"reedmace/know"
)

type dots = []api.Dot

// model is a set of dots, kept in a way that has nothing to do with vectors:
// whether each dot is in it. Count 0 is no dot and stays unused.
type model [api.MaxSites][api.MaxCount + 1]bool

func modelOf(l ...api.Dot) *model {
	m := new(model)
	for _, d := range l {
		m[d.Site][d.Count] = true
	}
	return m
}

// upTo adds the dots of a site from a count to another one.
func (m *model) upTo(site, from, to int) *model {
	for c := from; c <= to; c++ {
		m[site][c] = true
	}
	return m
}

// know writes a model as a set: the vector ends ahead of the first dot that is
// missing, and the dots behind it are exceptions. There may be too many.
func (m *model) know() api.Know {
	var k api.Know
	for site := range m {
		n := slices.Index(m[site][1:], false)
		if n < 0 {
			n = api.MaxCount
		}
		k.Vec = append(k.Vec, n)
		for c := n + 1; c <= api.MaxCount; c++ {
			if m[site][c] {
				k.More = append(k.More, api.Dot{Site: site, Count: c})
			}
		}
	}
	for len(k.Vec) > 0 && k.Vec[len(k.Vec)-1] == 0 {
		k.Vec = k.Vec[:len(k.Vec)-1]
	}
	return k
}

func (m *model) count() int {
	n := 0
	for site := range m {
		for _, in := range m[site] {
			if in {
				n++
			}
		}
	}
	return n
}

// combine returns the dots for which op is true of whether x and y have them.
func combine(x, y *model, op func(a, b bool) bool) *model {
	m := new(model)
	for site := range m {
		for c := 1; c <= api.MaxCount; c++ {
			m[site][c] = op(x[site][c], y[site][c])
		}
	}
	return m
}

// random returns numbers that look random and are the same in every run.
func random(seed uint32) func(n int) int {
	return func(n int) int {
		seed = seed*1664525 + 1013904223
		return int(seed>>8) % n
	}
}

// every returns n dots of a site, from a count on, at a distance from each
// other.
func every(site, from, step, n int) dots {
	var l dots
	for i := range n {
		l = append(l, api.Dot{Site: site, Count: from + i*step})
	}
	return l
}

// lows are all sets of the first five dots of a site.
func lows(site int) []*model {
	var l []*model
	for bits := range 32 {
		m := new(model)
		for i := range 5 {
			m[site][i+1] = bits>>i&1 == 1
		}
		l = append(l, m)
	}
	return l
}

// ends are sets that reach the highest count, or the limit of exceptions.
func ends() []*model {
	full := new(model)
	for site := range full {
		full.upTo(site, 1, 1000)
	}
	return []*model{
		full,
		new(model).upTo(0, 1, 1000),
		new(model).upTo(4, 1, 1000),
		new(model).upTo(4, 1, 999),
		new(model).upTo(2, 1, 998).upTo(2, 1000, 1000),
		new(model).upTo(2, 990, 1000),
		new(model).upTo(1, 1, 3).upTo(3, 1, 500),
		modelOf(every(0, 2, 1, 60)...),
		modelOf(every(0, 2, 2, 60)...),
		modelOf(every(0, 1, 2, 61)...),
		modelOf(every(0, 3, 2, 60)...).upTo(4, 1, 7),
		modelOf(every(4, 941, 1, 60)...),
		modelOf(every(1, 500, 3, 60)...).upTo(0, 1, 1000),
		modelOf(every(0, 500, 3, 30)...).upTo(1, 1, 1000),
		modelOf(slices.Concat(every(0, 2, 2, 12), every(1, 2, 2, 12), every(2, 2, 2, 12), every(3, 2, 2, 12), every(4, 2, 2, 12))...),
	}
}

// scattered are sets with dots at random, close to the vector and above it.
func scattered(n int) []*model {
	next := random(11)
	var l []*model
	for range n {
		m := new(model)
		for site := range m {
			if next(3) > 0 {
				m.upTo(site, 1, next(9))
			}
		}
		for range next(20) {
			m[next(5)][1+next(14)] = true
		}
		l = append(l, m)
	}
	return l
}

func samples() []*model {
	return slices.Concat(lows(0), ends(), scattered(25))
}

func same(a, b api.Know) bool {
	return slices.Equal(a.Vec, b.Vec) && slices.Equal(a.More, b.More)
}

// wantSet compares a result with a model, which may have too many exceptions.
func wantSet(t *testing.T, name string, k api.Know, e api.Errno, m *model) {
	t.Helper()
	want, we := m.know(), api.OK
	if len(want.More) > 60 {
		want, we = api.Know{}, api.ErrLarge
	}
	if !same(k, want) || e != we {
		t.Errorf("%s = %v, %v, want %v, %v", name, k, e, want, we)
	}
}

// edges are integers at bounds and far beyond them.
func edges() []int {
	return []int{math.MinInt, math.MinInt + 1, -1 << 32, -1000, -1, 0, 1, 2, 3, 4, 5, 6, 60, 61, 999, 1000, 1001, 1 << 32, math.MaxInt - 1, math.MaxInt}
}

// P24
func TestDot(t *testing.T) {
	for _, site := range edges() {
		for _, c := range edges() {
			want := slices.Contains([]int{0, 1, 2, 3, 4}, site) && slices.Contains([]int{1, 2, 3, 4, 5, 6, 60, 61, 999, 1000}, c)
			if is := know.Dot(api.Dot{Site: site, Count: c}); is != want {
				t.Errorf("Dot(%d, %d) = %v", site, c, is)
			}
		}
	}
}

// badSet is an invalid set, with its error.
type badSet struct {
	k api.Know
	e api.Errno
}

func badSets() []badSet {
	l := []badSet{
		{api.Know{Vec: []int{1, 1, 1, 1, 1, 1}}, api.ErrLarge},
		{api.Know{Vec: make([]int, 6)}, api.ErrLarge},
		{api.Know{Vec: slices.Repeat([]int{-1}, 100)}, api.ErrLarge},
		{api.Know{More: every(0, 2, 2, 61)}, api.ErrLarge},
		{api.Know{More: make(dots, 61)}, api.ErrLarge},
		{api.Know{Vec: []int{0}, More: every(0, 2, 2, 61)}, api.ErrLarge},
		{api.Know{Vec: []int{-1}, More: every(0, 2, 2, 61)}, api.ErrLarge},

		{api.Know{Vec: []int{-1}}, api.ErrArg},
		{api.Know{Vec: []int{1001}}, api.ErrArg},
		{api.Know{Vec: []int{math.MinInt}}, api.ErrArg},
		{api.Know{Vec: []int{math.MaxInt}}, api.ErrArg},
		{api.Know{Vec: []int{1, 1, 1, 1, 1001}}, api.ErrArg},
		{api.Know{Vec: []int{1001, 0}}, api.ErrArg},
		{api.Know{Vec: []int{-1, 0}, More: dots{{Count: 1}}}, api.ErrArg},

		{api.Know{Vec: []int{0}}, api.ErrForm},
		{api.Know{Vec: []int{1, 0}}, api.ErrForm},
		{api.Know{Vec: []int{1, 2, 3, 4, 0}}, api.ErrForm},
		{api.Know{Vec: []int{0, 0, 0, 0, 0}}, api.ErrForm},
		{api.Know{Vec: []int{0}, More: dots{{Count: 0}}}, api.ErrForm},
	}
	return append(l, badMores()...)
}

// badMores are invalid in their More.
func badMores() []badSet {
	return []badSet{
		{api.Know{More: dots{{}}}, api.ErrArg},
		{api.Know{More: dots{{Site: -1, Count: 2}}}, api.ErrArg},
		{api.Know{More: dots{{Site: 5, Count: 2}}}, api.ErrArg},
		{api.Know{More: dots{{Site: 0, Count: 1001}}}, api.ErrArg},
		{api.Know{More: dots{{Site: 0, Count: -3}}}, api.ErrArg},
		{api.Know{More: dots{{Site: math.MinInt, Count: math.MaxInt}}}, api.ErrArg},
		{api.Know{More: dots{{Site: math.MaxInt, Count: math.MinInt}}}, api.ErrArg},
		{api.Know{Vec: []int{3}, More: dots{{Count: 0}}}, api.ErrArg},
		{api.Know{Vec: []int{1000}, More: dots{{Count: 1001}}}, api.ErrArg},
		{api.Know{Vec: []int{1000}, More: dots{{Count: 1002}}}, api.ErrArg},

		{api.Know{More: dots{{Count: 1}}}, api.ErrForm},
		{api.Know{More: dots{{Site: 4, Count: 1}}}, api.ErrForm},
		{api.Know{Vec: []int{7}, More: dots{{Count: 8}}}, api.ErrForm},
		{api.Know{Vec: []int{7}, More: dots{{Count: 7}}}, api.ErrForm},
		{api.Know{Vec: []int{7}, More: dots{{Count: 1}}}, api.ErrForm},
		{api.Know{Vec: []int{999}, More: dots{{Count: 1000}}}, api.ErrForm},
		{api.Know{Vec: []int{1, 7}, More: dots{{Count: 3}, {Site: 1, Count: 8}}}, api.ErrForm},
		{api.Know{Vec: []int{1, 7}, More: dots{{Count: 3}, {Site: 2, Count: 1}}}, api.ErrForm},

		{api.Know{More: dots{{Count: 3}, {Count: 3}}}, api.ErrForm},
		{api.Know{More: dots{{Count: 3}, {Count: 2}}}, api.ErrForm},
		{api.Know{More: dots{{Site: 1, Count: 3}, {Site: 0, Count: 9}}}, api.ErrForm},
		{api.Know{More: dots{{Site: 1, Count: 3}, {Site: 0, Count: 3}}}, api.ErrForm},
		{api.Know{More: dots{{Count: 3}, {Count: 5}, {Count: 5}}}, api.ErrForm},
		{api.Know{More: dots{{Count: 3}, {Count: 9}, {Count: 5}}}, api.ErrForm},

		// Of one dot, ErrArg comes first; of several, the first one.
		{api.Know{More: dots{{Count: 3}, {Count: 0}}}, api.ErrArg},
		{api.Know{More: dots{{Count: 3}, {Site: -1, Count: 2}}}, api.ErrArg},
		{api.Know{More: dots{{Count: 1}, {Count: 0}}}, api.ErrForm},
		{api.Know{More: dots{{Count: 3}, {Count: 2}, {Site: 9, Count: 2}}}, api.ErrForm},
		{api.Know{More: dots{{Site: 9, Count: 2}, {Count: 1}}}, api.ErrArg},
	}
}

// P25
func TestCheck(t *testing.T) {
	good := []api.Know{
		{},
		{Vec: []int{}, More: dots{}},
		{Vec: []int{1}},
		{Vec: []int{0, 1}},
		{Vec: []int{0, 0, 0, 0, 1000}},
		{Vec: []int{1000, 1000, 1000, 1000, 1000}},
		{More: dots{{Count: 2}}},
		{More: dots{{Site: 4, Count: 1000}}},
		{More: every(0, 2, 1, 60)},
		{Vec: []int{998}, More: dots{{Count: 1000}}},
		{Vec: []int{7}, More: dots{{Count: 9}, {Count: 10}, {Site: 1, Count: 2}, {Site: 3, Count: 5}}},
		{Vec: []int{0, 7}, More: dots{{Count: 2}, {Site: 1, Count: 9}, {Site: 2, Count: 2}}},
	}
	for _, m := range samples() {
		good = append(good, m.know())
	}
	for _, k := range good {
		if e := know.Check(k); e != api.OK {
			t.Errorf("Check(%v) = %v", k, e)
		}
	}
	for _, b := range badSets() {
		if e := know.Check(b.k); e != b.e {
			t.Errorf("Check(%v) = %v, want %v", b.k, e, b.e)
		}
	}
}

// P25: the error of Check comes first, of a and then of b, and nothing else
// comes with it.
func TestErrors(t *testing.T) {
	good := api.Know{Vec: []int{3}, More: dots{{Site: 1, Count: 4}}}
	for _, b := range badSets() {
		for _, d := range []api.Dot{{Count: 1}, {Site: 4, Count: 900}, {}, {Site: -1}} {
			if is, e := know.Has(b.k, d); is || e != b.e {
				t.Errorf("Has(%v, %v) = %v, %v, want %v", b.k, d, is, e, b.e)
			}
			if k, e := know.Add(b.k, d); !same(k, api.Know{}) || e != b.e {
				t.Errorf("Add(%v, %v) = %v, %v, want %v", b.k, d, k, e, b.e)
			}
		}
		if n, e := know.Count(b.k); n != 0 || e != b.e {
			t.Errorf("Count(%v) = %v, %v, want %v", b.k, n, e, b.e)
		}
		wantErrors(t, b.k, good, b.e)
		wantErrors(t, good, b.k, b.e)
		wantErrors(t, api.Know{}, b.k, b.e)
		for _, c := range badSets() {
			wantErrors(t, b.k, c.k, b.e)
		}
	}
}

func wantErrors(t *testing.T, a, b api.Know, want api.Errno) {
	t.Helper()
	for name, op := range setOps() {
		if k, e := op(a, b); !same(k, api.Know{}) || e != want {
			t.Errorf("%s(%v, %v) = %v, %v, want %v", name, a, b, k, e, want)
		}
	}
	if is, e := know.Within(a, b); is || e != want {
		t.Errorf("Within(%v, %v) = %v, %v, want %v", a, b, is, e, want)
	}
}

func setOps() map[string]func(a, b api.Know) (api.Know, api.Errno) {
	return map[string]func(a, b api.Know) (api.Know, api.Errno){"Join": know.Join, "Meet": know.Meet}
}

// someDots are the dots at which a sample may have a bound.
func someDots() dots {
	var l dots
	for site := range api.MaxSites {
		l = append(l, every(site, 1, 1, 20)...)
		l = append(l, every(site, 58, 1, 6)...)
		l = append(l, every(site, 499, 1, 6)...)
		l = append(l, every(site, 988, 1, 13)...)
	}
	return l
}

// badDots are the dots of edges that are not valid.
func badDots() dots {
	var l dots
	for _, x := range edges() {
		if x < 0 || x > 4 {
			l = append(l, api.Dot{Site: x, Count: 1})
		}
		if x < 1 || x > 1000 {
			l = append(l, api.Dot{Site: 0, Count: x}, api.Dot{Site: 4, Count: x}, api.Dot{Site: x, Count: x})
		}
	}
	return l
}

// P26
func TestHas(t *testing.T) {
	for _, m := range samples() {
		k := m.know()
		for _, d := range someDots() {
			if is, e := know.Has(k, d); is != m[d.Site][d.Count] || e != api.OK {
				t.Errorf("Has(%v, %v) = %v, %v", k, d, is, e)
			}
		}
		for _, d := range badDots() {
			if is, e := know.Has(k, d); is || e != api.ErrArg {
				t.Errorf("Has(%v, %v) = %v, %v", k, d, is, e)
			}
		}
	}
}

// P27
func TestAdd(t *testing.T) {
	for _, m := range samples() {
		k := m.know()
		for _, d := range someDots() {
			with := *m
			with[d.Site][d.Count] = true
			r, e := know.Add(k, d)
			wantSet(t, "Add", r, e, &with)
		}
		for _, d := range badDots() {
			if r, e := know.Add(k, d); !same(r, api.Know{}) || e != api.ErrArg {
				t.Errorf("Add(%v, %v) = %v, %v", k, d, r, e)
			}
		}
	}
}

// P27, the example: the dots 2 and 1 of a site are its first two.
func TestAddExample(t *testing.T) {
	for site := range api.MaxSites {
		k, e := know.Add(api.Know{}, api.Dot{Site: site, Count: 2})
		if !same(k, api.Know{More: dots{{Site: site, Count: 2}}}) || e != api.OK {
			t.Error(k, e)
		}
		k, e = know.Add(k, api.Dot{Site: site, Count: 1})
		if !same(k, api.Know{Vec: append(make([]int, site), 2)}) || e != api.OK {
			t.Error(k, e)
		}
	}
}

// P27: only a sixty-first exception is too much, not a dot that is there
// already or that extends the vector.
func TestAddLarge(t *testing.T) {
	k := api.Know{Vec: []int{3}, More: append(every(0, 5, 2, 30), every(1, 2, 2, 30)...)}
	for _, c := range []struct {
		d    api.Dot
		want api.Know
		e    api.Errno
	}{
		{api.Dot{Count: 6}, api.Know{}, api.ErrLarge},
		{api.Dot{Count: 1000}, api.Know{}, api.ErrLarge},
		{api.Dot{Site: 4, Count: 2}, api.Know{}, api.ErrLarge},
		{api.Dot{Count: 2}, k, api.OK},
		{api.Dot{Count: 5}, k, api.OK},
		{api.Dot{Site: 1, Count: 60}, k, api.OK},
		{api.Dot{Site: 4, Count: 1}, api.Know{Vec: []int{3, 0, 0, 0, 1}, More: k.More}, api.OK},
		{api.Dot{Count: 4}, api.Know{Vec: []int{5}, More: k.More[1:]}, api.OK},
	} {
		if r, e := know.Add(k, c.d); !same(r, c.want) || e != c.e {
			t.Errorf("Add(%v) = %v, %v, want %v, %v", c.d, r, e, c.want, c.e)
		}
	}
	if r, e := know.Add(api.Know{More: k.More[1:]}, api.Dot{Count: 5}); len(r.More) != 60 || e != api.OK {
		t.Errorf("Add of a sixtieth exception = %v, %v", r, e)
	}
}

// P27: the order in which dots are added has no effect.
func TestAddOrder(t *testing.T) {
	next := random(3)
	for _, m := range scattered(25) {
		var l dots
		for site := range m {
			for c, in := range m[site] {
				if in {
					l = slices.Insert(l, next(len(l)+1), api.Dot{Site: site, Count: c})
				}
			}
		}
		var k api.Know
		for _, d := range l {
			var e api.Errno
			if k, e = know.Add(k, d); e != api.OK {
				t.Fatal(l, d, e)
			}
		}
		wantSet(t, "the dots in some order", k, api.OK, m)
	}
}

// P28, P29
func TestPairs(t *testing.T) {
	for _, x := range samples() {
		for _, y := range samples() {
			testPair(t, x, y)
		}
	}
	for _, x := range lows(4) {
		for _, y := range lows(4) {
			testPair(t, x, y)
		}
	}
}

func testPair(t *testing.T, x, y *model) {
	t.Helper()
	a, b := x.know(), y.know()
	join, e := know.Join(a, b)
	wantSet(t, "Join", join, e, combine(x, y, func(p, q bool) bool { return p || q }))
	meet, e := know.Meet(a, b)
	wantSet(t, "Meet", meet, e, combine(x, y, func(p, q bool) bool { return p && q }))
	less := combine(x, y, func(p, q bool) bool { return p && !q })
	if is, e := know.Within(a, b); is != (*less == model{}) || e != api.OK {
		t.Errorf("Within(%v, %v) = %v, %v", a, b, is, e)
	}
}

// P28: what counts is how many exceptions the union has, not the arguments.
func TestJoinLarge(t *testing.T) {
	vec := api.Know{Vec: []int{120}}
	for _, c := range []struct {
		a, b dots
		want api.Know
		e    api.Errno
	}{
		{every(0, 2, 2, 30), every(1, 2, 2, 30), api.Know{More: append(every(0, 2, 2, 30), every(1, 2, 2, 30)...)}, api.OK},
		{every(0, 2, 2, 30), every(1, 2, 2, 31), api.Know{}, api.ErrLarge},
		{every(0, 2, 2, 60), every(0, 3, 2, 1), api.Know{}, api.ErrLarge},
		{every(0, 2, 2, 60), every(1, 2, 2, 60), api.Know{}, api.ErrLarge},
		{every(0, 2, 2, 60), every(0, 2, 2, 60), api.Know{More: every(0, 2, 2, 60)}, api.OK},
		{every(0, 2, 2, 60), every(0, 4, 2, 59), api.Know{More: every(0, 2, 2, 60)}, api.OK},
		{every(0, 2, 2, 60), every(0, 3, 2, 59), api.Know{}, api.ErrLarge},
	} {
		if r, e := know.Join(api.Know{More: c.a}, api.Know{More: c.b}); !same(r, c.want) || e != c.e {
			t.Errorf("Join(%v, %v) = %v, %v, want %v, %v", c.a, c.b, r, e, c.want, c.e)
		}
	}
	// The odd dots fill the gaps between the even ones.
	odd := api.Know{Vec: []int{1}, More: every(0, 3, 2, 59)}
	if r, e := know.Join(api.Know{More: every(0, 2, 2, 60)}, odd); !same(r, vec) || e != api.OK {
		t.Errorf("Join = %v, %v, want %v", r, e, vec)
	}
	if r, e := know.Join(api.Know{More: every(0, 2, 2, 60)}, vec); !same(r, vec) || e != api.OK {
		t.Errorf("Join = %v, %v, want %v", r, e, vec)
	}
}

// P28: the intersection of two valid sets can have too many exceptions.
func TestMeetLarge(t *testing.T) {
	for n := range 61 {
		a := api.Know{Vec: []int{1000}, More: every(1, 500, 2, 60)}
		b := api.Know{Vec: []int{0, 1000}, More: every(0, 2, 3, n)}
		for _, pair := range [][2]api.Know{{a, b}, {b, a}} {
			want, we := api.Know{More: slices.Concat(b.More, a.More)}, api.OK
			if n > 0 {
				want, we = api.Know{}, api.ErrLarge
			}
			if r, e := know.Meet(pair[0], pair[1]); !same(r, want) || e != we {
				t.Errorf("Meet(%v, %v) = %v, %v, want %v, %v", pair[0], pair[1], r, e, want, we)
			}
		}
	}
	a := api.Know{Vec: []int{1000}, More: every(1, 500, 2, 30)}
	b := api.Know{Vec: []int{0, 1000}, More: every(0, 2, 3, 30)}
	if r, e := know.Meet(a, b); len(r.More) != 60 || len(r.Vec) != 0 || e != api.OK {
		t.Errorf("Meet of sixty exceptions = %v, %v", r, e)
	}
}

// P29: a count that is greater in a is not made up for by exceptions of b.
func TestWithin(t *testing.T) {
	for _, c := range []struct {
		a, b api.Know
		want bool
	}{
		{api.Know{}, api.Know{}, true},
		{api.Know{}, api.Know{Vec: []int{1}}, true},
		{api.Know{Vec: []int{1}}, api.Know{}, false},
		{api.Know{Vec: []int{3}}, api.Know{Vec: []int{3}}, true},
		{api.Know{Vec: []int{3}}, api.Know{Vec: []int{1}, More: dots{{Count: 3}}}, false},
		{api.Know{Vec: []int{1}, More: dots{{Count: 3}}}, api.Know{Vec: []int{3}}, true},
		{api.Know{More: dots{{Count: 3}}}, api.Know{More: dots{{Count: 2}, {Count: 3}}}, true},
		{api.Know{More: dots{{Count: 3}}}, api.Know{More: dots{{Site: 1, Count: 3}}}, false},
		{api.Know{More: dots{{Count: 3}}}, api.Know{Vec: []int{0, 9}}, false},
		{api.Know{Vec: []int{0, 0, 0, 0, 1}}, api.Know{Vec: []int{9, 9, 9, 9}}, false},
	} {
		if is, e := know.Within(c.a, c.b); is != c.want || e != api.OK {
			t.Errorf("Within(%v, %v) = %v, %v, want %v", c.a, c.b, is, e, c.want)
		}
	}
}

// P29
func TestCount(t *testing.T) {
	for _, m := range samples() {
		if n, e := know.Count(m.know()); n != m.count() || e != api.OK {
			t.Errorf("Count(%v) = %v, %v, want %v", m.know(), n, e, m.count())
		}
	}
	k := api.Know{Vec: []int{7, 0, 2}, More: dots{{Count: 9}, {Site: 1, Count: 2}}}
	if n, e := know.Count(k); n != 11 || e != api.OK {
		t.Errorf("Count(%v) = %v, %v, want 11", k, n, e)
	}
	if n, e := know.Count(ends()[0].know()); n != 5000 || e != api.OK {
		t.Errorf("Count of the full set = %v, %v", n, e)
	}
}

const filler = -7

// guarded is a set with spare capacity, and the whole of its memory.
type guarded struct {
	k    api.Know
	vec  []int
	more dots
}

func guard(k api.Know) guarded {
	vec := append(slices.Clone(k.Vec), slices.Repeat([]int{filler}, 9)...)
	more := append(slices.Clone(k.More), slices.Repeat(dots{{Site: filler, Count: filler}}, 90)...)
	return guarded{api.Know{Vec: vec[:len(k.Vec)], More: more[:len(k.More)]}, vec, more}
}

// intact reports whether the memory is still that of a guarded k.
func (g guarded) intact(k api.Know) bool {
	fresh := guard(k)
	return slices.Equal(g.vec, fresh.vec) && slices.Equal(g.more, fresh.more)
}

// overwrite fills the memory of a set, including its spare capacity.
func overwrite(k api.Know) {
	vec, more := k.Vec[:cap(k.Vec)], k.More[:cap(k.More)]
	for i := range vec {
		vec[i] = filler
	}
	for i := range more {
		more[i] = api.Dot{Site: filler, Count: filler}
	}
}

func clone(k api.Know) api.Know {
	return api.Know{Vec: slices.Clone(k.Vec), More: slices.Clone(k.More)}
}

// P2: arguments and their spare capacity stay as they are, and a result keeps
// its value when arguments and other results are overwritten.
func testMemory(t *testing.T, name string, x, y api.Know, op func(a, b api.Know) (api.Know, api.Errno)) {
	t.Helper()
	a, b := guard(x), guard(y)
	r, _ := op(a.k, b.k)
	again, _ := op(a.k, b.k)
	want := clone(r)
	overwrite(again)
	if !a.intact(x) || !b.intact(y) || !same(r, want) {
		t.Errorf("%s(%v, %v) changes or shares memory", name, x, y)
	}
	overwrite(r)
	if !a.intact(x) || !b.intact(y) {
		t.Errorf("%s(%v, %v) returns memory of an argument", name, x, y)
	}
	r, _ = op(a.k, b.k)
	overwrite(api.Know{Vec: a.vec, More: a.more})
	overwrite(api.Know{Vec: b.vec, More: b.more})
	if !same(r, want) {
		t.Errorf("%s(%v, %v) keeps an argument", name, x, y)
	}
}

func memorySets() []api.Know {
	return []api.Know{
		{},
		{Vec: []int{3, 0, 2}},
		{More: dots{{Count: 4}, {Site: 1, Count: 2}}},
		{Vec: []int{2, 0, 2}, More: dots{{Count: 4}, {Count: 6}, {Site: 4, Count: 9}}},
		{Vec: []int{1000, 1000, 1000, 1000, 1000}},
		{More: every(0, 2, 2, 60)},
	}
}

// P2
func TestMemory(t *testing.T) {
	for _, x := range memorySets() {
		for _, y := range memorySets() {
			for name, op := range setOps() {
				testMemory(t, name, x, y, op)
			}
		}
		for _, d := range []api.Dot{{Count: 1}, {Count: 3}, {Count: 4}, {Site: 1, Count: 7}, {Site: 3, Count: 1}} {
			testMemory(t, "Add", x, api.Know{}, func(a, _ api.Know) (api.Know, api.Errno) { return know.Add(a, d) })
		}
	}
}

// P2, for one set as both arguments, and for the functions that return no set.
func TestMemoryOfOthers(t *testing.T) {
	for _, x := range memorySets() {
		g := guard(x)
		for name, op := range setOps() {
			r, e := op(g.k, g.k)
			if !same(r, x) || e != api.OK || !g.intact(x) {
				t.Errorf("%s(%v) with itself = %v, %v", name, x, r, e)
			}
			overwrite(r)
		}
		know.Check(g.k)
		know.Has(g.k, api.Dot{Count: 6})
		know.Count(g.k)
		know.Within(g.k, g.k)
		if !g.intact(x) {
			t.Errorf("a function changes %v", x)
		}
	}
}

// P1: a panic ends the test, so it is enough to call everything. Whatever the
// arguments, a result is valid.
func TestNoPanic(t *testing.T) {
	wantValid := func(k api.Know, _ api.Errno) {
		t.Helper()
		if e := know.Check(k); e != api.OK {
			t.Errorf("a result is %v: %v", k, e)
		}
	}
	for _, x := range edges() {
		for _, y := range edges() {
			d := api.Dot{Site: x, Count: y}
			l := []api.Know{{Vec: []int{x, y}}, {More: dots{d}}, {Vec: []int{y}, More: dots{d}}, {More: dots{{Count: 3}, d, d}}}
			for _, a := range append(l, memorySets()...) {
				know.Check(a)
				know.Has(a, d)
				know.Count(a)
				wantValid(know.Add(a, d))
				for _, b := range l {
					know.Within(a, b)
					wantValid(know.Join(a, b))
					wantValid(know.Meet(b, a))
				}
			}
		}
	}
}
