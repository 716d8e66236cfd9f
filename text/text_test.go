package text_test

import (
	"math"
	"regexp"
	"slices"
	"strconv"
	"strings"
	"testing"

	"reedmace/api"
	"reedmace/formula"
	"reedmace/text"
)

type nodes = []api.Node

func all() api.Node          { return api.Node{Kind: api.All} }
func tag(a int) api.Node     { return api.Node{Kind: api.Tag, A: a} }
func in(a, b int) api.Node   { return api.Node{Kind: api.In, A: a, B: b} }
func not(a int) api.Node     { return api.Node{Kind: api.Not, A: a} }
func both(a, b int) api.Node { return api.Node{Kind: api.Both, A: a, B: b} }
func either(a, b int) api.Node {
	return api.Node{Kind: api.Any, A: a, B: b}
}

// pair is a text and the formula that Read makes of it.
type pair struct {
	s string
	l nodes
}

// written are pairs whose two sides are both written out.
func written() []pair {
	return []pair{
		{"*", nodes{all()}},
		{"#0", nodes{tag(0)}},
		{"#1", nodes{tag(1)}},
		{"#2", nodes{tag(2)}},
		{"#3", nodes{tag(3)}},
		{"[0,1)", nodes{in(0, 1)}},
		{"[0,32)", nodes{in(0, 32)}},
		{"[9,10)", nodes{in(9, 10)}},
		{"[10,20)", nodes{in(10, 20)}},
		{"[31,32)", nodes{in(31, 32)}},
		{"!*", nodes{all(), not(0)}},
		{"!!#3", nodes{tag(3), not(0), not(1)}},
		{"(#0&#1)", nodes{tag(0), tag(1), both(0, 1)}},
		{"(#0|#1)", nodes{tag(0), tag(1), either(0, 1)}},
		{"(#2&#2)", nodes{tag(2), tag(2), both(0, 1)}},
		{"!(#1|[2,9))", nodes{tag(1), in(2, 9), either(0, 1), not(2)}},
		{"(!#1|[2,9))", nodes{tag(1), not(0), in(2, 9), either(1, 2)}},
		{"(#1|![2,9))", nodes{tag(1), in(2, 9), not(1), either(0, 2)}},
		{"((#0&#1)|#2)", nodes{tag(0), tag(1), both(0, 1), tag(2), either(2, 3)}},
		{"(#0&(#1|#2))", nodes{tag(0), tag(1), tag(2), either(1, 2), both(0, 3)}},
		{"((*|#1)&(#2|*))", nodes{all(), tag(1), either(0, 1), tag(2), all(), either(3, 4), both(2, 5)}},
	}
}

// join returns the pair of a Both or an Any.
func join(kind int, sign string, a, b pair) pair {
	l := slices.Clone(a.l)
	for _, n := range b.l {
		l = append(l, moved(n, len(a.l)))
	}
	n := api.Node{Kind: kind, A: len(a.l) - 1, B: len(l) - 1}
	return pair{"(" + a.s + sign + b.s + ")", append(l, n)}
}

// moved returns a node whose references are greater by k.
func moved(n api.Node, k int) api.Node {
	switch n.Kind {
	case api.Not:
		n.A += k
	case api.Both, api.Any:
		n.A, n.B = n.A+k, n.B+k
	}
	return n
}

func negate(a pair) pair {
	return pair{"!" + a.s, append(slices.Clone(a.l), not(len(a.l)-1))}
}

// leaves are all pairs of one node.
func leaves() []pair {
	r := []pair{{"*", nodes{all()}}}
	for a := range 4 {
		r = append(r, pair{"#" + strconv.Itoa(a), nodes{tag(a)}})
	}
	for a := range 32 {
		for b := a + 1; b <= 32; b++ {
			r = append(r, pair{"[" + strconv.Itoa(a) + "," + strconv.Itoa(b) + ")", nodes{in(a, b)}})
		}
	}
	return r
}

// random returns numbers that look random and are the same in every run.
func random(seed uint32) func(n int) int {
	return func(n int) int {
		seed = seed*1664525 + 1013904223
		return int(seed>>8) % n
	}
}

// grown returns a pair of k nodes.
func grown(next func(int) int, k int) pair {
	if k == 1 {
		l := leaves()
		return l[next(5+next(2)*(len(l)-5))]
	}
	if k == 2 || next(3) == 0 {
		return negate(grown(next, k-1))
	}
	left := 1 + next(k-2)
	a, b := grown(next, left), grown(next, k-1-left)
	if next(2) == 0 {
		return join(api.Both, "&", a, b)
	}
	return join(api.Any, "|", a, b)
}

// samples are pairs of one to thirty nodes.
func samples() []pair {
	r := append(written(), leaves()...)
	next := random(7)
	for k := range 30 {
		for range 10 {
			r = append(r, grown(next, k+1))
		}
	}
	return r
}

func wantShow(t *testing.T, l nodes, s string, e api.Errno) {
	t.Helper()
	if r, re := text.Show(l); r != s || re != e {
		t.Errorf("Show(%v) = %q, %v, want %q, %v", l, r, re, s, e)
	}
}

func wantRead(t *testing.T, s string, l nodes, e api.Errno) {
	t.Helper()
	if r, re := text.Read(s); !slices.Equal(r, l) || re != e {
		t.Errorf("Read(%q) = %v, %v, want %v, %v", s, r, re, l, e)
	}
}

// P22
func TestShow(t *testing.T) {
	for _, p := range samples() {
		wantShow(t, p.l, p.s, api.OK)
	}
}

// P22: the text is that of the last node; nodes may be shared, in any order,
// or used nowhere.
func TestShowShared(t *testing.T) {
	for _, p := range []pair{
		{"#1", nodes{tag(0), tag(1)}},
		{"*", nodes{tag(0), not(0), all()}},
		{"!#0", nodes{tag(0), tag(1), not(0)}},
		{"(#1&#0)", nodes{tag(0), tag(1), both(1, 0)}},
		{"(#1|#0)", nodes{tag(0), tag(1), either(1, 0)}},
		{"(#0&#0)", nodes{tag(0), both(0, 0)}},
		{"(!#0|#0)", nodes{tag(0), not(0), either(1, 0)}},
		{"((#0&#0)|(#0&#0))", nodes{tag(0), both(0, 0), either(1, 1)}},
		{"!([3,9)|!([3,9)|#2))", nodes{tag(2), in(3, 9), either(1, 0), not(2), either(1, 3), not(4)}},
	} {
		wantShow(t, p.l, p.s, api.OK)
	}
}

// Chapter 4: fields that a kind does not mention are ignored.
func TestShowIgnoredFields(t *testing.T) {
	for _, x := range []int{math.MinInt, -1, 0, 1, 5, 99, math.MaxInt} {
		wantShow(t, nodes{{Kind: api.All, A: x, B: x}}, "*", api.OK)
		wantShow(t, nodes{{Kind: api.Tag, A: 2, B: x}}, "#2", api.OK)
		wantShow(t, nodes{tag(1), {Kind: api.Not, A: 0, B: x}}, "!#1", api.OK)
	}
}

// long is a formula whose text has 397 + k bytes.
func long(k int) nodes {
	// The texts of the nodes 0 to 6 have 1, 5, 13, 29, 61, 125 and 253 bytes.
	l := doubled(6, api.Both)
	l = append(l, either(6, 5), both(2, 7))
	for i := range k {
		l = append(l, not(8+i))
	}
	return l
}

// doubled is a formula whose text has 2^k stars.
func doubled(k, kind int) nodes {
	l := nodes{all()}
	for i := range k {
		l = append(l, api.Node{Kind: kind, A: i, B: i})
	}
	return l
}

// P22: 400 bytes are not too long, and 401 are.
func TestShowLarge(t *testing.T) {
	for k := range 12 {
		l := long(k)
		if k > 3 {
			wantShow(t, l, "", api.ErrLarge)
			continue
		}
		s, e := text.Show(l)
		if len(s) != 397+k || e != api.OK || s != expand(l, len(l)-1) {
			t.Errorf("Show(long(%d)) = %q of %d bytes, %v", k, s, len(s), e)
		}
	}
	for _, kind := range []int{api.Both, api.Any} {
		for k := range 30 {
			if k > 6 {
				wantShow(t, doubled(k, kind), "", api.ErrLarge)
				continue
			}
			wantShow(t, doubled(k, kind), expand(doubled(k, kind), k), api.OK)
		}
	}
}

// expand returns the text of node i, of each reference anew.
func expand(l nodes, i int) string {
	n := l[i]
	switch n.Kind {
	case api.All:
		return "*"
	case api.Not:
		return "!" + expand(l, n.A)
	case api.Both:
		return "(" + expand(l, n.A) + "&" + expand(l, n.B) + ")"
	case api.Any:
		return "(" + expand(l, n.A) + "|" + expand(l, n.B) + ")"
	}
	panic("a test has a node of another kind")
}

// P22: a part that is too long makes every text with it too long, and a node
// that is too long but not part of the last one makes no difference.
func TestShowLargeParts(t *testing.T) {
	for _, kind := range []int{api.Both, api.Any} {
		for k := 7; k < 28; k++ {
			l := append(doubled(k, kind), tag(2))
			wantShow(t, l, "#2", api.OK)
			wantShow(t, append(slices.Clone(l), not(k)), "", api.ErrLarge)
			wantShow(t, append(slices.Clone(l), api.Node{Kind: kind, A: k, B: k + 1}), "", api.ErrLarge)
			wantShow(t, append(slices.Clone(l), api.Node{Kind: kind, A: k + 1, B: k}), "", api.ErrLarge)
			wantShow(t, append(slices.Clone(l), api.Node{Kind: kind, A: 0, B: k + 1}), expandPair(kind), api.OK)
		}
	}
}

func expandPair(kind int) string {
	if kind == api.Both {
		return "(*&#2)"
	}
	return "(*|#2)"
}

// P22: the error of formula.Check, ahead of the length of the text.
func TestShowErrors(t *testing.T) {
	for _, x := range []struct {
		l nodes
		e api.Errno
	}{
		{nil, api.ErrLarge},
		{nodes{}, api.ErrLarge},
		{slices.Repeat(nodes{all()}, 31), api.ErrLarge},
		{slices.Repeat(nodes{tag(9)}, 31), api.ErrLarge},
		{nodes{{}}, api.ErrForm},
		{nodes{{Kind: 7}}, api.ErrForm},
		{nodes{{Kind: -1}, all()}, api.ErrForm},
		{nodes{tag(4)}, api.ErrArg},
		{nodes{tag(-1)}, api.ErrArg},
		{nodes{tag(4), all()}, api.ErrArg},
		{nodes{in(3, 3)}, api.ErrArg},
		{nodes{in(0, 33)}, api.ErrArg},
		{nodes{in(-1, 5)}, api.ErrArg},
		{nodes{not(0)}, api.ErrArg},
		{nodes{all(), both(0, 1)}, api.ErrArg},
		{nodes{all(), either(-1, 0)}, api.ErrArg},
		{nodes{{Kind: 7}, tag(4)}, api.ErrForm},
		{nodes{tag(4), {Kind: 7}}, api.ErrArg},
		{append(doubled(20, api.Both), api.Node{Kind: 7}), api.ErrForm},
		{append(doubled(20, api.Both), api.Node{Kind: 7}, not(20)), api.ErrForm},
		{append(doubled(20, api.Any), tag(4), not(20)), api.ErrArg},
		{append(doubled(20, api.Any), not(21)), api.ErrArg},
	} {
		if formula.Check(x.l) != x.e {
			t.Fatalf("Check(%v) is not %v", x.l, x.e)
		}
		wantShow(t, x.l, "", x.e)
	}
}

// P23
func TestRead(t *testing.T) {
	for _, p := range samples() {
		wantRead(t, p.s, p.l, api.OK)
	}
}

// P22, P23: a text that can be read is printed unchanged, and a formula that
// is printed and read has the same points.
func TestRoundTrip(t *testing.T) {
	for _, p := range samples() {
		l, _ := text.Read(p.s)
		wantShow(t, l, p.s, api.OK)
	}
	l := nodes{tag(2), in(3, 9), either(1, 0), not(2), either(1, 3), both(4, 4)}
	s, _ := text.Show(l)
	r, e := text.Read(s)
	if e != api.OK || len(r) != 13 {
		t.Fatalf("Read(%q) = %v, %v, want 13 nodes", s, r, e)
	}
	for tags := range 16 {
		for n := range 32 {
			p := api.Point{Tags: tags, Num: n}
			a, _ := formula.Is(l, p)
			if b, _ := formula.Is(r, p); a != b {
				t.Errorf("%v and %v differ at %v", l, r, p)
			}
		}
	}
}

// P23: words that are not of the form.
func TestReadWords(t *testing.T) {
	for _, s := range []string{
		"", " ", "\x00", "\xff", "0", "7", "a", "é", ")", "]", ",", "&", "|",
		"**", "* ", " *", "*)", "*\n", "*\x00", "#0#1", "*&*", "*|*", "#0|#1",
		"#", "##1", "#*", "#-1", "#+1", "# 1", "#1 ", "#a", "#1a", "#\xb1", "#١", "#0x1", "#1_0",
		"#00", "#01", "#001", "#10 ", "#100", "#123", "#1234567890123456789012",
		"[", "[)", "[,)", "[1", "[1,", "[1,2", "[1)", "[1,)", "[,2)", "[1,2]", "(1,2)", "[1;2)", "[1,2,3)", "[1,2))",
		"[01,2)", "[1,02)", "[00,2)", "[0,00)", "[-1,2)", "[1,-2)", "[+1,2)", "[ 1,2)", "[1 ,2)", "[1, 2)", "[1,2 )",
		"[100,2)", "[1,200)", "[*,2)", "[1,#2)", "[1.,2)",
		"!", "!!", "!)", "*!", "!**", "! *", "!&", "!()",
		"(", "()", "(*", "(*)", "(#1)", "(*&", "(*&)", "(&*)", "(*&*", "(*|*", "(**)", "(*!*)", "(*,*)", "(*+*)", "(*&&*)", "(*||*)",
		"(*&*))", "((*&*)", "(*&*&*)", "(*|*|*)", "(*&*]", "(*&*) ", "( *&*)", "(* &*)", "(*& *)", "(*&* )", "[*&*)", "(*&*)*", "!(*&*)&*",
		"(#1&[2,3)", "(#1&[2,3]))", "(#01&*)", "(#100&*)", "(*&[2,300))",
	} {
		wantRead(t, s, nil, api.ErrWord)
	}
}

// P23: numbers of two digits are of the form; formula.Check sees to the rest.
func TestReadNumbers(t *testing.T) {
	for a := range 100 {
		n := tag(a)
		wantChecked(t, "#"+strconv.Itoa(a), nodes{n})
		wantChecked(t, "!#"+strconv.Itoa(a), nodes{n, not(0)})
		wantChecked(t, "(#"+strconv.Itoa(a)+"&*)", nodes{n, all(), both(0, 1)})
		wantChecked(t, "(*|#"+strconv.Itoa(a)+")", nodes{all(), n, either(0, 1)})
		for b := range 100 {
			wantChecked(t, "["+strconv.Itoa(a)+","+strconv.Itoa(b)+")", nodes{in(a, b)})
		}
	}
	for _, s := range []string{"#4", "#10", "#99", "[3,3)", "[4,3)", "[0,0)", "[0,33)", "[32,33)", "[40,50)", "[0,99)"} {
		wantRead(t, s, nil, api.ErrArg)
		wantRead(t, "!("+s+"&*)", nil, api.ErrArg)
	}
}

// wantChecked checks a text of the form that has these nodes.
func wantChecked(t *testing.T, s string, l nodes) {
	t.Helper()
	e := formula.Check(l)
	if e != api.OK {
		l = nil
	}
	wantRead(t, s, l, e)
}

// P23: more than 400 bytes come first, then the form, then the number of
// nodes, and then the nodes.
func TestReadErrors(t *testing.T) {
	stars := func(k int) string { return strings.Repeat("!", k-1) + "*" }
	for k := 1; k <= 30; k++ {
		l := nodes{all()}
		for i := range k - 1 {
			l = append(l, not(i))
		}
		wantRead(t, stars(k), l, api.OK)
	}
	for k := 31; k < 410; k++ {
		wantRead(t, stars(k), nil, api.ErrLarge)
	}
	for _, c := range []string{"x", "!", "(", "[", "#", "*", ")", "1", "\x00"} {
		wantRead(t, strings.Repeat(c, 399), nil, api.ErrWord)
		wantRead(t, strings.Repeat(c, 400), nil, api.ErrWord)
		wantRead(t, strings.Repeat(c, 401), nil, api.ErrLarge)
		wantRead(t, strings.Repeat(c, 100000), nil, api.ErrLarge)
	}
	// The limit is one of bytes and not of characters.
	wantRead(t, strings.Repeat("é", 200), nil, api.ErrWord)
	wantRead(t, strings.Repeat("é", 201), nil, api.ErrLarge)
	wantRead(t, "*"+strings.Repeat(" ", 399), nil, api.ErrWord)
	wantRead(t, "*"+strings.Repeat(" ", 400), nil, api.ErrLarge)
	wantRead(t, strings.Repeat("!", 29)+"#9", nil, api.ErrArg)
	wantRead(t, strings.Repeat("!", 30)+"#9", nil, api.ErrLarge)
	wantRead(t, strings.Repeat("!", 30)+"#9x", nil, api.ErrWord)
	wantRead(t, "(#9&", nil, api.ErrWord)
	wantRead(t, "#99)", nil, api.ErrWord)
	wantRead(t, strings.Repeat("(*&", 14)+"*"+strings.Repeat(")", 14), chain(14), api.OK)
	wantRead(t, strings.Repeat("(*&", 15)+"*"+strings.Repeat(")", 15), nil, api.ErrLarge)
	wantRead(t, strings.Repeat("(*&", 15)+"*"+strings.Repeat(")", 14), nil, api.ErrWord)
	wantRead(t, strings.Repeat("(*&", 15)+"*"+strings.Repeat(")", 16), nil, api.ErrWord)
	wantRead(t, strings.Repeat("(*&", 99)+"!!!*"+strings.Repeat(")", 99), nil, api.ErrLarge)
}

// chain is the formula of a text of the form (*&(*&(*&*))).
func chain(k int) nodes {
	l := slices.Repeat(nodes{all()}, k+1)
	for i := range k {
		l = append(l, both(k-1-i, k+i))
	}
	return l
}

// isForm tells whether a text is of the form by reducing it: a star stands
// for a node of any kind, and one star is left of a text of the form.
func isForm(s string) bool {
	s = leafForm.ReplaceAllString(s, "*")
	for {
		r := nodeForm.ReplaceAllString(s, "*")
		if r == s {
			return s == "*"
		}
		s = r
	}
}

var leafForm = regexp.MustCompile(`#(0|[1-9][0-9]?)|\[(0|[1-9][0-9]?),(0|[1-9][0-9]?)\)`)
var nodeForm = regexp.MustCompile(`!\*|\(\*[&|]\*\)`)

// wantForm checks whether Read takes a text for one of the form, and that it
// is printed unchanged if it can be read.
func wantForm(t *testing.T, s string) {
	t.Helper()
	l, e := text.Read(s)
	if (e != api.ErrWord) != isForm(s) || e != api.OK && len(l) > 0 {
		t.Fatalf("Read(%q) = %v, %v", s, l, e)
	}
	if e == api.OK {
		wantShow(t, l, s, api.OK)
	}
}

// P23, for all texts of at most five of these bytes.
func TestReadAll(t *testing.T) {
	const signs = "*#[,)!(&|0139 "
	var extend func(s string)
	extend = func(s string) {
		if s != "" {
			wantForm(t, s)
		}
		for i := 0; len(s) < 5 && i < len(signs); i++ {
			extend(s + signs[i:i+1])
		}
	}
	extend("")
}

// P23, for texts of the form in which one byte is changed, missing or too much.
func TestReadChanged(t *testing.T) {
	next := random(3)
	l := written()
	for k := range 12 {
		l = append(l, grown(next, k+1))
	}
	for _, p := range l {
		for i := range len(p.s) + 1 {
			for c := range 256 {
				wantForm(t, p.s[:i]+string([]byte{byte(c)})+p.s[i:])
				if i < len(p.s) {
					wantForm(t, p.s[:i]+string([]byte{byte(c)})+p.s[i+1:])
				}
			}
			if i < len(p.s) {
				wantForm(t, p.s[:i]+p.s[i+1:])
			}
			wantForm(t, p.s[:i])
			wantForm(t, p.s[i:])
		}
	}
}

// filler fills spare capacity; it occurs in no formula.
func filler() api.Node { return api.Node{Kind: -7, A: -7, B: -7} }

// roomy returns a copy of l with spare capacity that is filled.
func roomy(l nodes) nodes {
	r := append(make(nodes, 0, len(l)+5), l...)
	for i := len(r); i < cap(r); i++ {
		r[:cap(r)][i] = filler()
	}
	return r
}

func overwrite(l nodes) {
	l = l[:cap(l)]
	for i := range l {
		l[i] = filler()
	}
}

// P2
func TestMemory(t *testing.T) {
	bad := []pair{{"", nodes{tag(4)}}, {"", long(4)}, {"", nodes{{Kind: 7}}}}
	for _, p := range append(samples(), bad...) {
		l := roomy(p.l)
		before := slices.Clone(l[:cap(l)])
		s, _ := text.Show(l)
		if !slices.Equal(l[:cap(l)], before) {
			t.Errorf("Show(%v) changes its argument", p.l)
		}
		overwrite(l)
		if s != p.s {
			t.Errorf("Show(%v) keeps its argument", p.l)
		}
	}
	for _, p := range samples() {
		first, _ := text.Read(p.s)
		second, _ := text.Read(p.s)
		overwrite(first)
		third, _ := text.Read(p.s)
		if !slices.Equal(second, p.l) || !slices.Equal(third, p.l) {
			t.Errorf("two results of Read(%q) share memory", p.s)
		}
	}
}

// P2: a call leaves nothing behind that the next one could see.
func TestNoState(t *testing.T) {
	for _, s := range []string{"(#1&(#2|", "(*&*", "#9", strings.Repeat("!", 60) + "*", strings.Repeat("x", 500)} {
		text.Read(s)
		wantRead(t, "!(#1|[2,9))", nodes{tag(1), in(2, 9), either(0, 1), not(2)}, api.OK)
		text.Show(long(9))
		wantShow(t, nodes{tag(1), in(2, 9), either(0, 1), not(2)}, "!(#1|[2,9))", api.OK)
	}
}

// P1: a panic ends the test, so it is enough to call everything.
func TestNoPanic(t *testing.T) {
	edges := []int{math.MinInt, math.MinInt32, -1 << 32, -1, 0, 1, 2, 3, 4, 9, 10, 29, 30, 31, 32, 33, 100, 1 << 32, math.MaxInt32, math.MaxInt}
	for kind := -1; kind < 9; kind++ {
		for _, a := range edges {
			for _, b := range edges {
				n := api.Node{Kind: kind, A: a, B: b}
				for _, l := range []nodes{{n}, {all(), n}, {n, all()}, {all(), n, not(1), both(1, 2)}, slices.Repeat(nodes{n}, 30)} {
					text.Show(l)
				}
			}
		}
	}
	const signs = "*#[,)!(&|0123456789 \xff"
	next := random(9)
	for i := range 20000 {
		var s []byte
		for range i % 420 {
			s = append(s, signs[next(len(signs))])
		}
		text.Read(string(s))
	}
}
