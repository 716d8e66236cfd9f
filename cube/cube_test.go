package cube_test

import (
	"math"
	"slices"
	"testing"

	"reedmace/api"
	"reedmace/cube"
)

// model is a set of combinations, one by one.
type model [16]bool

// modelOf goes tag by tag, as the definition of a cube does.
func modelOf(c api.Cube) model {
	var m model
	for tags := range m {
		m[tags] = true
		for i := range api.MaxTags {
			present := tags>>i&1 == 1
			if c.Yes>>i&1 == 1 && !present || c.No>>i&1 == 1 && present {
				m[tags] = false
			}
		}
	}
	return m
}

func (m model) count() int {
	k := 0
	for _, in := range m {
		if in {
			k++
		}
	}
	return k
}

// cubes are all 81 valid ones: each tag is demanded, excluded or open.
func cubes() []api.Cube {
	l := []api.Cube{{}}
	for i := range api.MaxTags {
		var next []api.Cube
		for _, c := range l {
			next = append(next, c, api.Cube{Yes: c.Yes | 1<<i, No: c.No}, api.Cube{Yes: c.Yes, No: c.No | 1<<i})
		}
		l = next
	}
	return l
}

// badCubes are invalid ones, with the error of each.
func badCubes() []struct {
	c api.Cube
	e api.Errno
} {
	return []struct {
		c api.Cube
		e api.Errno
	}{
		{api.Cube{Yes: 16}, api.ErrArg},
		{api.Cube{No: 16}, api.ErrArg},
		{api.Cube{Yes: -1}, api.ErrArg},
		{api.Cube{No: -1}, api.ErrArg},
		{api.Cube{Yes: 17, No: 1}, api.ErrArg},
		{api.Cube{Yes: 1, No: 17}, api.ErrArg},
		{api.Cube{Yes: -1, No: -1}, api.ErrArg},
		{api.Cube{Yes: math.MinInt}, api.ErrArg},
		{api.Cube{No: math.MaxInt}, api.ErrArg},
		{api.Cube{Yes: 1 << 32}, api.ErrArg},
		{api.Cube{Yes: 1, No: 1}, api.ErrForm},
		{api.Cube{Yes: 1, No: 3}, api.ErrForm},
		{api.Cube{Yes: 12, No: 8}, api.ErrForm},
		{api.Cube{Yes: 15, No: 15}, api.ErrForm},
	}
}

// P8
func TestCheck(t *testing.T) {
	if n := len(cubes()); n != 81 {
		t.Fatal(n)
	}
	for _, c := range cubes() {
		if e := cube.Check(c); e != api.OK {
			t.Errorf("Check(%v) = %v", c, e)
		}
	}
	for _, b := range badCubes() {
		if e := cube.Check(b.c); e != b.e {
			t.Errorf("Check(%v) = %v, want %v", b.c, e, b.e)
		}
	}
}

// P8, for every Yes and No from -2 to 17.
func TestCheckAround(t *testing.T) {
	valid := 0
	for yes := -2; yes < 18; yes++ {
		for no := -2; no < 18; no++ {
			want := api.OK
			switch {
			case yes < 0 || yes > 15 || no < 0 || no > 15:
				want = api.ErrArg
			case yes&no != 0:
				want = api.ErrForm
			default:
				valid++
			}
			if e := cube.Check(api.Cube{Yes: yes, No: no}); e != want {
				t.Errorf("Check(%d, %d) = %v, want %v", yes, no, e, want)
			}
		}
	}
	if valid != 81 {
		t.Error(valid)
	}
}

// P8: the error of Check comes first, of a and then of b, and nothing else
// comes with it.
func TestErrors(t *testing.T) {
	good := api.Cube{Yes: 1, No: 4}
	for _, b := range badCubes() {
		for _, tags := range []int{0, 1, -1, 16} {
			if is, e := cube.Has(b.c, tags); is || e != b.e {
				t.Errorf("Has(%v, %d) = %v, %v, want %v", b.c, tags, is, e, b.e)
			}
		}
		if n, e := cube.Count(b.c); n != 0 || e != b.e {
			t.Errorf("Count(%v) = %v, %v, want %v", b.c, n, e, b.e)
		}
		wantErrors(t, b.c, good, b.e)
		wantErrors(t, good, b.c, b.e)
		wantErrors(t, api.Cube{}, b.c, b.e)
		for _, d := range badCubes() {
			wantErrors(t, b.c, d.c, b.e)
		}
	}
}

func wantErrors(t *testing.T, a, b api.Cube, want api.Errno) {
	t.Helper()
	if c, e := cube.Meet(a, b); c != (api.Cube{}) || e != want {
		t.Errorf("Meet(%v, %v) = %v, %v, want %v", a, b, c, e, want)
	}
	if l, e := cube.Less(a, b); len(l) != 0 || e != want {
		t.Errorf("Less(%v, %v) = %v, %v, want %v", a, b, l, e, want)
	}
	if is, e := cube.Within(a, b); is || e != want {
		t.Errorf("Within(%v, %v) = %v, %v, want %v", a, b, is, e, want)
	}
}

// P9
func TestHas(t *testing.T) {
	for _, c := range cubes() {
		m := modelOf(c)
		for tags := range m {
			if is, e := cube.Has(c, tags); is != m[tags] || e != api.OK {
				t.Errorf("Has(%v, %d) = %v, %v, want %v", c, tags, is, e, m[tags])
			}
		}
		for _, tags := range []int{-1, 16, 17, 31, math.MinInt, math.MaxInt, 1 << 32} {
			if is, e := cube.Has(c, tags); is || e != api.ErrArg {
				t.Errorf("Has(%v, %d) = %v, %v, want ErrArg", c, tags, is, e)
			}
		}
	}
}

// P10, P11, for every pair of cubes.
func TestPairs(t *testing.T) {
	for _, a := range cubes() {
		for _, b := range cubes() {
			var meet, less model
			x, y := modelOf(a), modelOf(b)
			for tags := range x {
				meet[tags] = x[tags] && y[tags]
				less[tags] = x[tags] && !y[tags]
			}
			testMeet(t, a, b, meet)
			testLess(t, a, b, less)
			if is, e := cube.Within(a, b); is != (less.count() == 0) || e != api.OK {
				t.Errorf("Within(%v, %v) = %v, %v", a, b, is, e)
			}
		}
	}
}

func testMeet(t *testing.T, a, b api.Cube, want model) {
	t.Helper()
	c, e := cube.Meet(a, b)
	if want.count() == 0 {
		if c != (api.Cube{}) || e != api.ErrNone {
			t.Errorf("Meet(%v, %v) = %v, %v, want ErrNone", a, b, c, e)
		}
		return
	}
	if e != api.OK || cube.Check(c) != api.OK || modelOf(c) != want {
		t.Errorf("Meet(%v, %v) = %v, %v", a, b, c, e)
	}
}

func testLess(t *testing.T, a, b api.Cube, want model) {
	t.Helper()
	l, e := cube.Less(a, b)
	if e != api.OK || len(l) > 4 {
		t.Fatalf("Less(%v, %v) = %v, %v", a, b, l, e)
	}
	var union model
	sum := 0
	for _, c := range l {
		if cube.Check(c) != api.OK {
			t.Errorf("Less(%v, %v) = %v: %v is invalid", a, b, l, c)
		}
		m := modelOf(c)
		sum += m.count()
		for tags := range m {
			union[tags] = union[tags] || m[tags]
		}
	}
	// The counts add up to that of the union only if the cubes are disjoint.
	if union != want || sum != want.count() {
		t.Errorf("Less(%v, %v) = %v", a, b, l)
	}
}

// P11
func TestCount(t *testing.T) {
	for _, c := range cubes() {
		if n, e := cube.Count(c); n != modelOf(c).count() || e != api.OK {
			t.Errorf("Count(%v) = %v, %v, want %v", c, n, e, modelOf(c).count())
		}
	}
	for _, c := range []struct {
		c api.Cube
		n int
	}{
		{api.Cube{}, 16},
		{api.Cube{Yes: 1, No: 6}, 2},
		{api.Cube{Yes: 15}, 1},
		{api.Cube{No: 15}, 1},
		{api.Cube{Yes: 8}, 8},
	} {
		if n, e := cube.Count(c.c); n != c.n || e != api.OK {
			t.Errorf("Count(%v) = %v, %v, want %v", c.c, n, e, c.n)
		}
	}
}

// P2: no two results share memory.
func TestMemory(t *testing.T) {
	for _, a := range cubes() {
		for _, b := range cubes() {
			l, _ := cube.Less(a, b)
			again, _ := cube.Less(a, b)
			want := slices.Clone(l)
			again = again[:cap(again)]
			for i := range again {
				again[i] = api.Cube{Yes: -7, No: -7}
			}
			if !slices.Equal(l, want) {
				t.Errorf("Less(%v, %v) shares memory", a, b)
			}
		}
	}
}

// P1: a panic ends the test, so it is enough to call everything.
func TestNoPanic(t *testing.T) {
	edges := []int{math.MinInt, math.MinInt + 1, -1 << 32, -16, -1, 0, 1, 6, 9, 15, 16, 64, 1 << 32, math.MaxInt}
	var l []api.Cube
	for _, yes := range edges {
		for _, no := range edges {
			l = append(l, api.Cube{Yes: yes, No: no})
		}
	}
	for _, a := range l {
		cube.Check(a)
		cube.Count(a)
		for _, tags := range edges {
			cube.Has(a, tags)
		}
		for _, b := range l {
			cube.Meet(a, b)
			cube.Within(a, b)
			cube.Less(a, b)
		}
	}
}
