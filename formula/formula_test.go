package formula_test

import (
	"math"
	"slices"
	"testing"

	"reedmace/api"
	"reedmace/filter"
	"reedmace/formula"
)

type nodes = []api.Node
type boxes = []api.Box

// model is a set of points, one by one.
type model [16][32]bool

// modelWhere returns the points for which in is true.
func modelWhere(in func(tags, n int) bool) model {
	var m model
	for tags := range m {
		for n := range m[tags] {
			m[tags][n] = in(tags, n)
		}
	}
	return m
}

// modelOf returns the points for which a formula is true, from the sets of
// its nodes.
func modelOf(l nodes) model {
	var done []model
	for _, x := range l {
		done = append(done, modelWhere(func(tags, n int) bool {
			switch x.Kind {
			case api.All:
				return true
			case api.Tag:
				return tags>>x.A&1 == 1
			case api.In:
				return x.A <= n && n < x.B
			case api.Not:
				return !done[x.A][tags][n]
			case api.Both:
				return done[x.A][tags][n] && done[x.B][tags][n]
			case api.Any:
				return done[x.A][tags][n] || done[x.B][tags][n]
			}
			panic("a test has a node of an unknown kind")
		}))
	}
	return done[len(done)-1]
}

// modelOfFilter returns the points of a filter, box by box.
func modelOfFilter(f boxes) model {
	return modelWhere(func(tags, n int) bool {
		return slices.ContainsFunc(f, func(b api.Box) bool {
			return inCube(b.Cube, tags) && inSpans(b.Spans, n)
		})
	})
}

func inCube(c api.Cube, tags int) bool {
	for i := range 4 {
		present := tags>>i&1 == 1
		if c.Yes>>i&1 == 1 && !present || c.No>>i&1 == 1 && present {
			return false
		}
	}
	return true
}

func inSpans(l []api.Span, n int) bool {
	return slices.ContainsFunc(l, func(s api.Span) bool { return s.From <= n && n < s.To })
}

func all() api.Node          { return api.Node{Kind: api.All} }
func tag(a int) api.Node     { return api.Node{Kind: api.Tag, A: a} }
func in(a, b int) api.Node   { return api.Node{Kind: api.In, A: a, B: b} }
func not(a int) api.Node     { return api.Node{Kind: api.Not, A: a} }
func both(a, b int) api.Node { return api.Node{Kind: api.Both, A: a, B: b} }
func either(a, b int) api.Node {
	return api.Node{Kind: api.Any, A: a, B: b}
}

// random returns numbers that look random and are the same in every run.
func random(seed uint32) func(n int) int {
	return func(n int) int {
		seed = seed*1664525 + 1013904223
		return int(seed>>8) % n
	}
}

// randomNode returns a valid node with index i.
func randomNode(next func(int) int, i int) api.Node {
	kinds := 3
	if i > 0 {
		kinds = 9
	}
	switch next(kinds) {
	case 0:
		return tag(next(4))
	case 1:
		a := next(32)
		return in(a, a+1+next(32-a))
	case 2:
		if next(4) == 0 {
			return all()
		}
		return tag(next(4))
	case 3, 4:
		return not(next(i))
	case 5, 6:
		return both(next(i), next(i))
	default:
		return either(next(i), next(i))
	}
}

func randomFormula(next func(int) int, k int) nodes {
	var l nodes
	for i := range k {
		l = append(l, randomNode(next, i))
	}
	return l
}

// shared is a formula of 30 nodes with 2^28 paths from the last to the first.
func shared(kind int) nodes {
	l := nodes{tag(2), in(3, 20)}
	for i := 2; i < 30; i++ {
		l = append(l, api.Node{Kind: kind, A: i - 1, B: i - 1})
	}
	return l
}

// leaves are nodes that refer to no other.
func leaves() nodes {
	return nodes{all(), tag(0), tag(1), tag(2), tag(3), in(0, 1), in(5, 20), in(31, 32), in(0, 32)}
}

// nodesAt are all valid nodes with index i, as far as the leaves go.
func nodesAt(i int) nodes {
	l := leaves()
	for a := range i {
		l = append(l, not(a))
		for b := range i {
			l = append(l, both(a, b), either(a, b))
		}
	}
	return l
}

// small are all formulas of at most three nodes, as far as the leaves go.
func small() []nodes {
	var l []nodes
	for _, a := range nodesAt(0) {
		l = append(l, nodes{a})
		for _, b := range nodesAt(1) {
			l = append(l, nodes{a, b})
			for _, c := range nodesAt(2) {
				l = append(l, nodes{a, b, c})
			}
		}
	}
	return l
}

// samples are valid formulas of one to thirty nodes.
func samples() []nodes {
	l := []nodes{
		{tag(1), in(3, 9), not(0), both(1, 2), either(3, 0)},
		{tag(1), not(0), both(0, 1)},
		{tag(1), not(0), either(0, 1)},
		shared(api.Both),
		shared(api.Any),
		shared(api.Not),
		slices.Repeat(nodes{tag(3)}, 30),
	}
	for a := range 32 {
		for b := a + 1; b <= 32; b++ {
			l = append(l, nodes{in(a, b)})
		}
	}
	next := random(11)
	for k := range 30 {
		for range 8 {
			l = append(l, randomFormula(next, k+1))
		}
	}
	return append(l, ragged())
}

// ragged is a formula that gives each of the 16 combinations of tags a set of
// numbers of its own: every tag adds numbers that no other tag adds.
func ragged() nodes {
	l := nodes{tag(0), tag(1), tag(2), tag(3)}
	add := func(n api.Node) int {
		l = append(l, n)
		return len(l) - 1
	}
	union := add(in(0, 1))
	for i, from := range []int{1, 2, 4, 8} {
		union = add(either(union, add(both(i, add(in(from, 2*from))))))
	}
	return l
}

type badFormula struct {
	l nodes
	e api.Errno
}

// extremes are integers beyond every bound.
func extremes() []int {
	return []int{math.MinInt, math.MinInt32, -1 << 32, -33, -2, -1, 33, 64, 1 << 16, 1 << 32, math.MaxInt32, math.MaxInt}
}

// badFormulas are invalid, with the error of each.
func badFormulas() []badFormula {
	l := []badFormula{
		{nil, api.ErrLarge},
		{nodes{}, api.ErrLarge},
		{slices.Repeat(nodes{all()}, 31), api.ErrLarge},
		{slices.Repeat(nodes{{}}, 31), api.ErrLarge},
		{slices.Repeat(nodes{tag(4)}, 1000), api.ErrLarge},
		{nodes{{}}, api.ErrForm},
		{nodes{{Kind: 7, A: 0, B: 1}}, api.ErrForm},
		{nodes{all(), {Kind: 7, A: 0, B: 0}}, api.ErrForm},
		{nodes{{Kind: 0, A: -1, B: -1}}, api.ErrForm},
		{nodes{tag(4)}, api.ErrArg},
		{nodes{tag(-1)}, api.ErrArg},
		{nodes{in(-1, 3)}, api.ErrArg},
		{nodes{in(3, 33)}, api.ErrArg},
		{nodes{in(3, 3)}, api.ErrArg},
		{nodes{in(4, 3)}, api.ErrArg},
		{nodes{in(0, 0)}, api.ErrArg},
		{nodes{in(32, 32)}, api.ErrArg},
		{nodes{in(32, 33)}, api.ErrArg},
		{nodes{in(-5, -2)}, api.ErrArg},
		{nodes{not(0)}, api.ErrArg},
		{nodes{not(-1)}, api.ErrArg},
		{nodes{all(), not(1)}, api.ErrArg},
		{nodes{not(1), all()}, api.ErrArg},
		{nodes{all(), not(2), all()}, api.ErrArg},
		{append(slices.Repeat(nodes{all()}, 29), not(29)), api.ErrArg},
		// The first node with an error counts, and of it the kind.
		{nodes{tag(4), {}}, api.ErrArg},
		{nodes{{}, tag(4)}, api.ErrForm},
		{nodes{all(), not(0), {Kind: 9}, not(3)}, api.ErrForm},
		{nodes{all(), not(0), both(0, 2), {Kind: 9}}, api.ErrArg},
		{append(slices.Repeat(nodes{all()}, 29), api.Node{Kind: -1}), api.ErrForm},
	}
	for _, kind := range []int{api.Both, api.Any} {
		for _, x := range []struct{ a, b int }{{1, 0}, {0, 1}, {2, 0}, {0, 2}, {-1, 0}, {0, -1}, {1, 1}, {-1, -1}, {2, -1}} {
			l = append(l, badFormula{nodes{all(), {Kind: kind, A: x.a, B: x.b}, all()}, api.ErrArg})
		}
		l = append(l, badFormula{nodes{{Kind: kind}}, api.ErrArg})
	}
	for _, x := range extremes() {
		l = append(l, badFormula{nodes{{Kind: x}}, api.ErrForm}, badFormula{nodes{tag(x)}, api.ErrArg},
			badFormula{nodes{in(x, x)}, api.ErrArg}, badFormula{nodes{all(), not(x)}, api.ErrArg},
			badFormula{nodes{all(), both(x, 0)}, api.ErrArg}, badFormula{nodes{all(), both(0, x)}, api.ErrArg},
			badFormula{nodes{all(), either(x, 0)}, api.ErrArg}, badFormula{nodes{all(), either(0, x)}, api.ErrArg})
	}
	return l
}

func badPoints() []api.Point {
	return []api.Point{
		{Tags: 16}, {Tags: -1}, {Num: 32}, {Num: -1}, {Tags: 16, Num: 32},
		{Tags: math.MinInt}, {Tags: math.MaxInt}, {Num: math.MinInt}, {Num: math.MaxInt}, {Tags: 1 << 32}, {Num: 1 << 32},
	}
}

// P18
func TestCheck(t *testing.T) {
	for _, l := range slices.Concat(small(), samples()) {
		if e := formula.Check(l); e != api.OK {
			t.Errorf("Check(%v) = %v", l, e)
		}
	}
	for _, b := range badFormulas() {
		if e := formula.Check(b.l); e != b.e {
			t.Errorf("Check(%v) = %v, want %v", b.l, e, b.e)
		}
	}
}

// P18, for every kind, A and B around the bounds, as the third of four nodes.
func TestCheckAround(t *testing.T) {
	for kind := -2; kind < 10; kind++ {
		for a := -3; a < 36; a++ {
			for b := -3; b < 36; b++ {
				l := nodes{all(), all(), {Kind: kind, A: a, B: b}, all()}
				if e := formula.Check(l); e != checkThird(kind, a, b) {
					t.Errorf("Check(%v) = %v, want %v", l, e, checkThird(kind, a, b))
				}
			}
		}
	}
}

// checkThird returns the error of a node behind two others.
func checkThird(kind, a, b int) api.Errno {
	earlier := []int{0, 1}
	wrong := false
	switch kind {
	case 1:
	case 2:
		wrong = !slices.Contains([]int{0, 1, 2, 3}, a)
	case 3:
		wrong = a < 0 || b > 32 || a >= b
	case 4:
		wrong = !slices.Contains(earlier, a)
	case 5, 6:
		wrong = !slices.Contains(earlier, a) || !slices.Contains(earlier, b)
	default:
		return api.ErrForm
	}
	if wrong {
		return api.ErrArg
	}
	return api.OK
}

// P18: a reference to any earlier node is valid, and one to the node itself
// or to a later one is not, at every index.
func TestReferences(t *testing.T) {
	for i := 1; i < 30; i++ {
		for k := -1; k <= 31; k++ {
			want := api.OK
			if k < 0 || k >= i {
				want = api.ErrArg
			}
			for _, n := range []api.Node{not(k), both(k, 0), both(0, k), either(k, 0), either(0, k)} {
				l := slices.Repeat(nodes{all()}, 30)
				l[i] = n
				if e := formula.Check(l); e != want {
					t.Errorf("Check with %v at %d = %v, want %v", n, i, e, want)
				}
			}
		}
	}
}

// The chapter's introduction: fields that a kind does not mention are ignored.
func TestIgnoredFields(t *testing.T) {
	want := modelOf(nodes{all(), tag(3), not(1)})
	for _, x := range append(extremes(), 0, 1, 2) {
		for _, y := range append(extremes(), 0, 1, 2) {
			wantModel(t, nodes{{Kind: api.All, A: x, B: y}, {Kind: api.Tag, A: 3, B: x}, {Kind: api.Not, A: 1, B: y}}, want)
		}
		wantModel(t, nodes{{Kind: api.All, A: x, B: x}}, modelOf(nodes{all()}))
		wantModel(t, nodes{{Kind: api.Tag, A: 2, B: x}}, modelOf(nodes{tag(2)}))
	}
}

// wantModel checks Is for every point, Filter, and Check.
func wantModel(t *testing.T, l nodes, want model) {
	t.Helper()
	if e := formula.Check(l); e != api.OK {
		t.Errorf("Check(%v) = %v", l, e)
	}
	wantIs(t, l, want)
	wantFilter(t, l, want)
}

func wantIs(t *testing.T, l nodes, want model) {
	t.Helper()
	for tags := range want {
		for n, w := range want[tags] {
			if is, e := formula.Is(l, api.Point{Tags: tags, Num: n}); is != w || e != api.OK {
				t.Fatalf("Is(%v, %d, %d) = %v, %v, want %v", l, tags, n, is, e, w)
			}
		}
	}
}

// wantFilter checks the points of Filter, and what P13 says of every filter.
func wantFilter(t *testing.T, l nodes, want model) {
	t.Helper()
	f, e := formula.Filter(l)
	if e != api.OK || filter.Check(f) != api.OK || len(f) > 16 || modelOfFilter(f) != want {
		t.Errorf("Filter(%v) = %v, %v", l, f, e)
	}
}

// P19, P20
func TestValues(t *testing.T) {
	for _, l := range slices.Concat(small(), samples()) {
		wantModel(t, l, modelOf(l))
	}
}

// P19, P20, with the values written out.
func TestExamples(t *testing.T) {
	for _, x := range []struct {
		l    nodes
		want func(tags, n int) bool
	}{
		{nodes{all()}, func(tags, n int) bool { return true }},
		{nodes{all(), not(0)}, func(tags, n int) bool { return false }},
		{nodes{tag(0)}, func(tags, n int) bool { return tags%2 == 1 }},
		{nodes{tag(3)}, func(tags, n int) bool { return tags >= 8 }},
		{nodes{in(4, 7)}, func(tags, n int) bool { return n == 4 || n == 5 || n == 6 }},
		{nodes{in(31, 32)}, func(tags, n int) bool { return n == 31 }},
		{nodes{tag(0), tag(3)}, func(tags, n int) bool { return tags >= 8 }},
		{nodes{tag(3), in(0, 8), both(0, 1)}, func(tags, n int) bool { return tags >= 8 && n < 8 }},
		{nodes{tag(3), in(0, 8), either(0, 1)}, func(tags, n int) bool { return tags >= 8 || n < 8 }},
		{nodes{tag(3), in(0, 8), not(0), either(1, 2)}, func(tags, n int) bool { return tags < 8 || n < 8 }},
	} {
		wantModel(t, x.l, modelWhere(x.want))
	}
}

// P20: every combination of tags may need a box of its own.
func TestNumberOfBoxes(t *testing.T) {
	f, e := formula.Filter(ragged())
	if e != api.OK || len(f) != 16 || modelOfFilter(f) != modelOf(ragged()) {
		t.Errorf("Filter = %v, %v", f, e)
	}
}

// P19, P20: errors and their order, and zero values beside them.
func TestErrors(t *testing.T) {
	for _, b := range badFormulas() {
		for _, p := range append(badPoints(), api.Point{}, api.Point{Tags: 15, Num: 31}) {
			if is, e := formula.Is(b.l, p); is || e != b.e {
				t.Errorf("Is(%v, %v) = %v, %v, want %v", b.l, p, is, e, b.e)
			}
		}
		if f, e := formula.Filter(b.l); len(f) != 0 || e != b.e {
			t.Errorf("Filter(%v) = %v, %v, want %v", b.l, f, e, b.e)
		}
	}
	for _, l := range samples() {
		for _, p := range badPoints() {
			if is, e := formula.Is(l, p); is || e != api.ErrArg {
				t.Errorf("Is(%v, %v) = %v, %v, want ErrArg", l, p, is, e)
			}
		}
	}
}

func one(yes, no int, l ...api.Span) boxes {
	return boxes{{Cube: api.Cube{Yes: yes, No: no}, Spans: l}}
}

// singles returns k intervals of one number each.
func singles(k int) []api.Span {
	var l []api.Span
	for i := range k {
		l = append(l, api.Span{From: 2 * i, To: 2*i + 1})
	}
	return l
}

// filters are valid ones, with the number of nodes that P21 gives each.
func filters() map[int][]boxes {
	r := map[int][]boxes{
		2:    {nil, {}},
		4:    {one(0, 0)},
		6:    {filter.Every(), one(0, 0, api.Span{From: 3, To: 9}), one(1, 0), slices.Repeat(one(0, 0), 2)},
		7:    {one(0, 8)},
		9:    {one(0, 1, api.Span{From: 0, To: 32})},
		13:   {one(1, 2, api.Span{To: 1}, api.Span{From: 5, To: 6})},
		14:   {one(15, 0, api.Span{From: 31, To: 32})},
		15:   {append(one(0, 4, singles(1)...), one(4, 0, singles(1)...)...)},
		18:   {one(0, 15, singles(1)...)},
		28:   {slices.Repeat(one(0, 0), 13), one(0, 0, singles(12)...)},
		29:   {one(0, 2, singles(11)...), one(3, 4, singles(9)...)},
		30:   {slices.Repeat(one(0, 0), 14), one(0, 15, singles(7)...), one(0, 0, singles(13)...), slices.Repeat(one(8, 0, singles(5)...), 2), slices.Repeat(one(0, 0, api.Span{From: 4, To: 32}), 7), one(15, 0, singles(9)...)},
		31:   {one(0, 1, singles(12)...), one(0, 7, singles(9)...), append(one(0, 1, singles(6)...), one(2, 0, singles(4)...)...)},
		32:   {slices.Repeat(one(0, 0), 15), one(0, 15, singles(8)...), one(0, 0, singles(14)...)},
		36:   {one(0, 0, singles(16)...)},
		82:   {slices.Repeat(one(0, 0), 40)},
		1842: {slices.Repeat(one(0, 15, singles(16)...), 40)},
	}
	for yes := range 16 {
		for no := range 16 {
			if yes&no == 0 {
				f := one(yes, no, api.Span{From: 2, To: 3})
				r[size(f)] = append(r[size(f)], f)
			}
		}
	}
	next := random(5)
	for i := range 300 {
		f := randomFilter(next, i%4+1)
		r[size(f)] = append(r[size(f)], f)
	}
	return r
}

func randomFilter(next func(int) int, k int) boxes {
	var f boxes
	for range k {
		yes := next(16) & next(16)
		f = append(f, one(yes, next(16)&next(16)&^yes, randomSpans(next)...)...)
	}
	return f
}

func randomSpans(next func(int) int) []api.Span {
	var l []api.Span
	for from := next(12); from < 32; {
		to := min(from+1+next(12), 32)
		l = append(l, api.Span{From: from, To: to})
		from = to + 1 + next(16)
	}
	return l
}

// size adds up the nodes as P21 does.
func size(f boxes) int {
	n := 2
	for _, b := range f {
		n += 2 + 2*len(b.Spans)
		for i := range 4 {
			n += 2*(b.Cube.Yes>>i&1) + 3*(b.Cube.No>>i&1)
		}
	}
	return n
}

// P21
func TestOf(t *testing.T) {
	fit := 0
	for n, l := range filters() {
		for _, f := range l {
			if n != size(f) {
				t.Fatalf("%v is listed with %d nodes instead of %d", f, n, size(f))
			}
			if n <= 30 {
				fit++
			}
			wantOf(t, f, n)
		}
	}
	if fit < 100 {
		t.Errorf("only %d filters fit", fit)
	}
}

func wantOf(t *testing.T, f boxes, n int) {
	t.Helper()
	l, e := formula.Of(f)
	if n > 30 {
		if len(l) != 0 || e != api.ErrLarge {
			t.Errorf("Of(%v) = %v, %v, want ErrLarge", f, l, e)
		}
		return
	}
	if len(l) != n || e != api.OK {
		t.Fatalf("Of(%v) = %v, %v, want %d nodes", f, l, e, n)
	}
	wantZeros(t, l)
	wantModel(t, l, modelOfFilter(f))
	g, _ := formula.Filter(l)
	if same, e := filter.Same(f, g); !same || e != api.OK {
		t.Errorf("Filter(Of(%v)) = %v", f, g)
	}
}

// wantZeros checks that fields without a meaning are zero.
func wantZeros(t *testing.T, l nodes) {
	t.Helper()
	for _, n := range l {
		if n.Kind == api.All && n.A != 0 || n.Kind < api.In && n.B != 0 || n.Kind == api.Not && n.B != 0 {
			t.Errorf("%v of %v has a field that means nothing", n, l)
		}
	}
}

// P20, P21: a formula and the one of its filter have the same points.
func TestRoundTrip(t *testing.T) {
	fit := 0
	for _, l := range samples() {
		f, _ := formula.Filter(l)
		m, e := formula.Of(f)
		if size(f) > 30 {
			if len(m) != 0 || e != api.ErrLarge {
				t.Errorf("Of(%v) = %v, %v, want ErrLarge", f, m, e)
			}
			continue
		}
		fit++
		if e != api.OK || len(m) != size(f) || modelOf(m) != modelOf(l) {
			t.Errorf("Of(%v) = %v, %v", f, m, e)
		}
	}
	if fit < 100 {
		t.Errorf("only %d filters fit", fit)
	}
}

// P21: the error of filter.Check comes before ErrLarge, and no nodes with it.
func TestOfErrors(t *testing.T) {
	many := slices.Repeat(one(0, 0, singles(8)...), 10)
	bad := map[api.Errno][]boxes{
		api.ErrLarge: {make(boxes, 41), slices.Repeat(one(16, 0), 41), one(1, 2, singles(17)...)},
		api.ErrArg:   {one(16, 0), one(0, 16), one(-1, 0), one(0, math.MinInt), one(0, 0, api.Span{}), one(0, 0, api.Span{From: 0, To: 33}), one(0, 0, api.Span{From: math.MinInt, To: math.MaxInt})},
		api.ErrForm:  {one(1, 1), one(15, 15, api.Span{}), one(0, 0, api.Span{From: 1, To: 3}, api.Span{From: 3, To: 5})},
	}
	for want, l := range bad {
		for _, f := range l {
			for _, g := range []boxes{f, slices.Concat(many, f), slices.Concat(f, many)} {
				w := want
				if len(g) > 40 {
					w = api.ErrLarge
				}
				if r, e := formula.Of(g); len(r) != 0 || e != w {
					t.Errorf("Of(%v) = %v, %v, want %v", g, r, e, w)
				}
			}
		}
	}
}

// filler fills spare capacity; it occurs in no formula.
func filler() api.Node { return api.Node{Kind: -7, A: -7, B: -7} }

// roomy returns a copy of l with spare capacity that is filled.
func roomy(l nodes) nodes {
	r := make(nodes, 0, len(l)+5)
	r = append(r, l...)
	for i := len(r); i < cap(r); i++ {
		r[:cap(r)][i] = filler()
	}
	return r
}

// roomyFilter does the same with a filter and the intervals of its boxes.
func roomyFilter(f boxes) boxes {
	r := make(boxes, 0, len(f)+5)
	for _, b := range f {
		l := append(make([]api.Span, 0, len(b.Spans)+5), b.Spans...)
		for i := len(l); i < cap(l); i++ {
			l[:cap(l)][i] = api.Span{From: -7, To: -7}
		}
		r = append(r, api.Box{Cube: b.Cube, Spans: l})
	}
	for i := len(r); i < cap(r); i++ {
		r[:cap(r)][i] = api.Box{Cube: api.Cube{Yes: -7, No: -7}}
	}
	return r
}

// whole copies a filter together with all spare capacity.
func whole(f boxes) boxes {
	var r boxes
	for _, b := range f[:cap(f)] {
		r = append(r, api.Box{Cube: b.Cube, Spans: slices.Clone(b.Spans[:cap(b.Spans)])})
	}
	return r
}

func overwrite(l nodes) {
	l = l[:cap(l)]
	for i := range l {
		l[i] = filler()
	}
}

func overwriteFilter(f boxes) {
	f = f[:cap(f)]
	for i := range f {
		l := f[i].Spans[:cap(f[i].Spans)]
		for k := range l {
			l[k] = api.Span{From: -9, To: -9}
		}
		f[i].Cube = api.Cube{Yes: -9, No: -9}
	}
}

func equal(f, g boxes) bool {
	return slices.EqualFunc(f, g, func(a, b api.Box) bool {
		return a.Cube == b.Cube && slices.Equal(a.Spans, b.Spans)
	})
}

// P2, for the functions that take a formula.
func TestMemoryOfFormulas(t *testing.T) {
	for _, sample := range samples() {
		l := roomy(sample)
		before := slices.Clone(l[:cap(l)])
		formula.Check(l)
		formula.Is(l, api.Point{Tags: 6, Num: 9})
		f, _ := formula.Filter(l)
		again, _ := formula.Filter(l)
		if !slices.Equal(l[:cap(l)], before) {
			t.Errorf("%v is changed", sample)
		}
		overwriteFilter(again)
		overwrite(l)
		if modelOfFilter(f) != modelOf(sample) {
			t.Errorf("Filter(%v) shares memory", sample)
		}
		wantApart(t, f)
	}
}

// wantApart checks that no two boxes of a result share their intervals: what
// is written to one box, also behind its end, is not seen in the others.
func wantApart(t *testing.T, f boxes) {
	t.Helper()
	for i := range f {
		rest := whole(f[i+1 : len(f) : len(f)])
		overwriteFilter(f[i : i+1 : i+1])
		if !equal(whole(f[i+1:len(f):len(f)]), rest) {
			t.Errorf("box %d shares memory with one of %v", i, rest)
		}
	}
}

// P2, for Of.
func TestMemoryOfFilters(t *testing.T) {
	for _, l := range filters() {
		for _, sample := range l {
			f := roomyFilter(sample)
			before := whole(f)
			r, _ := formula.Of(f)
			again, _ := formula.Of(f)
			want := slices.Clone(r)
			if !equal(whole(f), before) {
				t.Errorf("Of(%v) changes its argument", sample)
			}
			if !slices.Equal(r, again) {
				t.Errorf("Of(%v) returns two different formulas", sample)
			}
			overwrite(again)
			overwriteFilter(f)
			if !slices.Equal(r, want) {
				t.Errorf("Of(%v) shares memory", sample)
			}
		}
	}
}

// P1: a panic ends the test, so it is enough to call everything.
func TestNoPanic(t *testing.T) {
	edges := append(extremes(), 0, 1, 2, 3, 4, 15, 16, 29, 30, 31, 32)
	for kind := -1; kind < 9; kind++ {
		for _, a := range edges {
			for _, b := range edges {
				n := api.Node{Kind: kind, A: a, B: b}
				for _, l := range []nodes{{n}, {all(), n}, {n, all()}, {all(), n, not(1), both(1, 2)}, slices.Repeat(nodes{n}, 30)} {
					formula.Check(l)
					formula.Is(l, api.Point{Tags: a, Num: b})
					formula.Is(l, api.Point{})
					formula.Filter(l)
				}
			}
		}
	}
	for _, a := range edges {
		for _, b := range edges {
			formula.Of(one(a, b))
			formula.Of(one(0, 0, api.Span{From: a, To: b}))
			formula.Of(one(a, 0, api.Span{From: a, To: b}, api.Span{From: b, To: a}))
		}
	}
}
