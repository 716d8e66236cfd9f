package span_test

import (
	"math"
	"slices"
	"testing"

	"reedmace/api"
	"reedmace/span"
)

type set = []api.Span

// model is a set of integers, kept in a way that has nothing to do with
// intervals.
type model [api.MaxNum]bool

func modelOf(bits uint32) model {
	var m model
	for n := range m {
		m[n] = bits>>n&1 == 1
	}
	return m
}

// spans writes a model as intervals: one opens where membership begins and
// closes where it ends.
func (m model) spans() set {
	l := set{}
	from := -1
	for n := 0; n <= api.MaxNum; n++ {
		in := n < api.MaxNum && m[n]
		if in && from < 0 {
			from = n
		}
		if !in && from >= 0 {
			l = append(l, api.Span{From: from, To: n})
			from = -1
		}
	}
	return l
}

func (m model) count() int {
	k := 0
	for _, in := range m {
		if in {
			k++
		}
	}
	return k
}

// samples are sets at both ends of the range, in its middle, with as many
// intervals as there can be, empty, and full.
func samples() []model {
	var l []model
	for low := range uint32(32) {
		l = append(l, modelOf(low), modelOf(low<<27), modelOf(low<<14), modelOf(^low))
	}
	for _, bits := range []uint32{0x55555555, 0xaaaaaaaa, 0xffff0000, 0x0000ffff, 0x5555ffff, 0xf0f0f0f0, 0x80000001} {
		l = append(l, modelOf(bits))
	}
	seed := uint32(1)
	for range 40 {
		seed = seed*1664525 + 1013904223
		l = append(l, modelOf(seed^seed>>13))
	}
	return l
}

func singles(n int) set {
	var l set
	for i := range n {
		l = append(l, api.Span{From: 2 * i, To: 2*i + 1})
	}
	return l
}

// badSets are invalid sets, with the error of each.
func badSets() []struct {
	l set
	e api.Errno
} {
	return []struct {
		l set
		e api.Errno
	}{
		{singles(17), api.ErrLarge},
		{make(set, 17), api.ErrLarge},
		{make(set, 1000), api.ErrLarge},
		{set{{}}, api.ErrArg},
		{set{{From: -1, To: 3}}, api.ErrArg},
		{set{{From: 0, To: 33}}, api.ErrArg},
		{set{{From: 32, To: 33}}, api.ErrArg},
		{set{{From: 32, To: 32}}, api.ErrArg},
		{set{{From: 5, To: 5}}, api.ErrArg},
		{set{{From: 6, To: 5}}, api.ErrArg},
		{set{{From: math.MinInt, To: math.MaxInt}}, api.ErrArg},
		{set{{From: math.MaxInt, To: math.MinInt}}, api.ErrArg},
		{set{{From: 0, To: math.MaxInt}}, api.ErrArg},
		{set{{From: math.MinInt, To: 1}}, api.ErrArg},
		{set{{From: 1, To: 3}, {From: 3, To: 5}}, api.ErrForm},
		{set{{From: 1, To: 3}, {From: 2, To: 5}}, api.ErrForm},
		{set{{From: 1, To: 3}, {From: 1, To: 3}}, api.ErrForm},
		{set{{From: 6, To: 8}, {From: 1, To: 3}}, api.ErrForm},
		{set{{From: 1, To: 3}, {From: 5, To: 9}, {From: 9, To: 10}}, api.ErrForm},
		// Of one interval, ErrArg comes first; of several, the first one.
		{set{{From: 1, To: 3}, {From: 2, To: 2}}, api.ErrArg},
		{set{{From: 1, To: 3}, {From: 3, To: 33}}, api.ErrArg},
		{set{{From: 1, To: 3}, {From: 3, To: 5}, {From: 7, To: 7}}, api.ErrForm},
		{set{{From: 4, To: 4}, {From: 1, To: 3}}, api.ErrArg},
	}
}

// P3
func TestCheck(t *testing.T) {
	good := []set{nil, {}, singles(16), {{From: 0, To: 32}}, {{From: 31, To: 32}}, {{From: 0, To: 1}}, {{From: 1, To: 3}, {From: 4, To: 5}}}
	for _, l := range good {
		if e := span.Check(l); e != api.OK {
			t.Errorf("Check(%v) = %v", l, e)
		}
	}
	for _, c := range badSets() {
		if e := span.Check(c.l); e != c.e {
			t.Errorf("Check(%v) = %v, want %v", c.l, e, c.e)
		}
	}
}

// P3: the error of Check comes first, of a and then of b, and nothing else
// comes with it.
func TestErrors(t *testing.T) {
	good := set{{From: 1, To: 5}}
	for _, c := range badSets() {
		if is, e := span.Has(c.l, 2); is || e != c.e {
			t.Errorf("Has(%v) = %v, %v, want %v", c.l, is, e, c.e)
		}
		if n, e := span.Count(c.l); n != 0 || e != c.e {
			t.Errorf("Count(%v) = %v, %v, want %v", c.l, n, e, c.e)
		}
		wantErrors(t, c.l, good, c.e)
		wantErrors(t, good, c.l, c.e)
		wantErrors(t, nil, c.l, c.e)
		for _, d := range badSets() {
			wantErrors(t, c.l, d.l, c.e)
		}
	}
}

func wantErrors(t *testing.T, a, b set, want api.Errno) {
	t.Helper()
	for name, op := range setOps() {
		if l, e := op(a, b); len(l) != 0 || e != want {
			t.Errorf("%s(%v, %v) = %v, %v, want %v", name, a, b, l, e, want)
		}
	}
	if is, e := span.Within(a, b); is || e != want {
		t.Errorf("Within(%v, %v) = %v, %v, want %v", a, b, is, e, want)
	}
}

func setOps() map[string]func(a, b set) (set, api.Errno) {
	return map[string]func(a, b set) (set, api.Errno){"Join": span.Join, "Meet": span.Meet, "Less": span.Less}
}

// P4
func TestOf(t *testing.T) {
	all := make([]int, 0, 32)
	for n := range 32 {
		all = append(all, 31-n)
	}
	many := slices.Repeat([]int{7}, 400)
	for _, c := range []struct {
		l    []int
		want set
		e    api.Errno
	}{
		{nil, nil, api.OK},
		{[]int{}, nil, api.OK},
		{[]int{0}, set{{From: 0, To: 1}}, api.OK},
		{[]int{31}, set{{From: 31, To: 32}}, api.OK},
		{[]int{3, 1, 2, 2, 31}, set{{From: 1, To: 4}, {From: 31, To: 32}}, api.OK},
		{[]int{5, 3, 5, 3}, set{{From: 3, To: 4}, {From: 5, To: 6}}, api.OK},
		{all, set{{From: 0, To: 32}}, api.OK},
		{many, set{{From: 7, To: 8}}, api.OK},
		{append(slices.Clone(many), 7), nil, api.ErrLarge},
		{append(slices.Clone(many), -1), nil, api.ErrLarge},
		{slices.Repeat([]int{99}, 401), nil, api.ErrLarge},
		{[]int{-1}, nil, api.ErrArg},
		{[]int{32}, nil, api.ErrArg},
		{[]int{1, 2, 32}, nil, api.ErrArg},
		{[]int{math.MinInt}, nil, api.ErrArg},
		{[]int{math.MaxInt}, nil, api.ErrArg},
	} {
		if l, e := span.Of(c.l); !slices.Equal(l, c.want) || e != c.e {
			t.Errorf("Of(%v) = %v, %v, want %v, %v", c.l, l, e, c.want, c.e)
		}
	}
}

// P4, for every sample.
func TestOfSamples(t *testing.T) {
	for _, m := range samples() {
		var ints []int
		for n := range m {
			if m[n] {
				ints = slices.Insert(ints, len(ints)/2, n, n)
			}
		}
		if l, e := span.Of(ints); !slices.Equal(l, m.spans()) || e != api.OK {
			t.Errorf("Of(%v) = %v, %v, want %v", ints, l, e, m.spans())
		}
	}
}

// P5
func TestHas(t *testing.T) {
	for _, m := range samples() {
		l := m.spans()
		for n := -70; n < 140; n++ {
			want := n >= 0 && n < len(m) && m[n]
			if is, e := span.Has(l, n); is != want || e != api.OK {
				t.Errorf("Has(%v, %d) = %v, %v, want %v", l, n, is, e, want)
			}
		}
	}
	full := set{{From: 0, To: 32}}
	for _, n := range []int{math.MinInt, math.MaxInt, 1 << 32, -1 << 32} {
		if is, e := span.Has(full, n); is || e != api.OK {
			t.Errorf("Has(%v, %d) = %v, %v", full, n, is, e)
		}
	}
}

// P6, the example.
func TestJoinExample(t *testing.T) {
	l, e := span.Join(set{{From: 1, To: 5}}, set{{From: 4, To: 10}})
	if !slices.Equal(l, set{{From: 1, To: 10}}) || e != api.OK {
		t.Error(l, e)
	}
}

// P6, P7
func TestPairs(t *testing.T) {
	for _, x := range samples() {
		for _, y := range samples() {
			testPair(t, x, y)
		}
	}
}

func testPair(t *testing.T, x, y model) {
	t.Helper()
	var join, meet, less model
	for n := range x {
		join[n] = x[n] || y[n]
		meet[n] = x[n] && y[n]
		less[n] = x[n] && !y[n]
	}
	a, b := x.spans(), y.spans()
	for name, want := range map[string]model{"Join": join, "Meet": meet, "Less": less} {
		if l, e := setOps()[name](a, b); !slices.Equal(l, want.spans()) || e != api.OK {
			t.Errorf("%s(%v, %v) = %v, %v, want %v", name, a, b, l, e, want.spans())
		}
	}
	if is, e := span.Within(a, b); is != (less.count() == 0) || e != api.OK {
		t.Errorf("Within(%v, %v) = %v, %v", a, b, is, e)
	}
}

// P7
func TestCount(t *testing.T) {
	for _, m := range samples() {
		if n, e := span.Count(m.spans()); n != m.count() || e != api.OK {
			t.Errorf("Count(%v) = %v, %v, want %v", m.spans(), n, e, m.count())
		}
	}
	if n, e := span.Count(nil); n != 0 || e != api.OK {
		t.Errorf("Count(nil) = %v, %v", n, e)
	}
	if n, e := span.Count(set{{From: 0, To: 32}}); n != 32 || e != api.OK {
		t.Errorf("Count of the full set = %v, %v", n, e)
	}
}

// roomy returns a copy of l with spare capacity, and the whole of its memory.
func roomy[T any](l []T, filler T) (arg, whole []T) {
	whole = append(slices.Clone(l), slices.Repeat([]T{filler}, 40)...)
	return whole[:len(l)], whole
}

// P2: arguments and their spare capacity stay as they are, and a result keeps
// its value when arguments and other results are overwritten.
func TestMemory(t *testing.T) {
	filler := api.Span{From: -7, To: -7}
	for _, pair := range [][2]set{
		{{{From: 1, To: 5}}, {{From: 7, To: 9}}},
		{{{From: 1, To: 5}, {From: 8, To: 9}}, nil},
		{nil, {{From: 1, To: 5}}},
		{{{From: 1, To: 5}}, {{From: 1, To: 5}}},
		{singles(16), {{From: 0, To: 32}}},
	} {
		for name, op := range setOps() {
			a, wholeA := roomy(pair[0], filler)
			b, wholeB := roomy(pair[1], filler)
			beforeA, beforeB := slices.Clone(wholeA), slices.Clone(wholeB)
			l, _ := op(a, b)
			again, _ := op(a, b)
			want := slices.Clone(l)
			overwrite(again, filler)
			if !slices.Equal(wholeA, beforeA) || !slices.Equal(wholeB, beforeB) || !slices.Equal(l, want) {
				t.Errorf("%s(%v, %v) changes or shares memory", name, pair[0], pair[1])
			}
			overwrite(wholeA, filler)
			overwrite(wholeB, filler)
			if !slices.Equal(l, want) {
				t.Errorf("%s(%v, %v) keeps an argument", name, pair[0], pair[1])
			}
		}
	}
}

func overwrite[T any](l []T, filler T) {
	l = l[:cap(l)]
	for i := range l {
		l[i] = filler
	}
}

// P2, for the functions that return no list, and for Of.
func TestMemoryOfOthers(t *testing.T) {
	ints, whole := roomy([]int{9, 3, 3, 1}, -7)
	before := slices.Clone(whole)
	l, _ := span.Of(ints)
	again, _ := span.Of(ints)
	overwrite(again, api.Span{})
	if !slices.Equal(whole, before) || !slices.Equal(l, set{{From: 1, To: 2}, {From: 3, To: 4}, {From: 9, To: 10}}) {
		t.Error("Of changes its argument or shares memory")
	}
	a, wholeA := roomy(singles(3), api.Span{From: -7, To: -7})
	beforeA := slices.Clone(wholeA)
	span.Check(a)
	span.Has(a, 2)
	span.Count(a)
	span.Within(a, a)
	if !slices.Equal(wholeA, beforeA) {
		t.Error("an argument is changed")
	}
}

// P1: a panic ends the test, so it is enough to call everything.
func TestNoPanic(t *testing.T) {
	edges := []int{math.MinInt, math.MinInt + 1, -1 << 32, -64, -1, 0, 1, 31, 32, 33, 63, 64, 1 << 32, math.MaxInt}
	for _, from := range edges {
		for _, to := range edges {
			l := set{{From: from, To: to}}
			two := append(l, api.Span{From: to, To: from})
			for _, n := range edges {
				span.Has(l, n)
				span.Of([]int{n, from, to})
			}
			for name, op := range setOps() {
				for _, pair := range [][2]set{{l, two}, {two, l}, {l, nil}, {nil, l}, {l, singles(16)}} {
					if r, e := op(pair[0], pair[1]); span.Check(r) != api.OK {
						t.Errorf("%s(%v) = %v, %v", name, pair, r, e)
					}
				}
			}
			span.Within(l, two)
			span.Count(two)
		}
	}
}
