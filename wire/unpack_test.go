package wire_test

import (
	"reflect"
	"runtime"
	"slices"
	"strings"
	"testing"

	"reedmace/api"
	"reedmace/filter"
	"reedmace/wire"
)

// wantForm checks that s, whose sum is right, encodes a response, which it
// returns, or that Unpack returns ErrForm.
func wantForm(t *testing.T, s string) (api.Batch, bool) {
	t.Helper()
	b, e := wire.Unpack(s)
	if e != api.OK {
		if e != api.ErrForm || !reflect.DeepEqual(b, api.Batch{}) {
			t.Errorf("Unpack(%q) = %v, %v", s, b, e)
		}
		return b, false
	}
	if again, e := wire.Pack(b); again != s || e != api.OK {
		t.Errorf("Unpack(%q) = %v, which is packed as %q, %v", s, b, again, e)
	}
	return b, true
}

// wantInverse checks that b comes back from its encoding: exactly if its
// filters have few boxes, and otherwise with filters of the same points.
func wantInverse(t *testing.T, b api.Batch) {
	t.Helper()
	x, e := wire.Unpack(encode(b))
	if e != api.OK || len(x.Parts) != len(b.Parts) {
		t.Errorf("Unpack(Pack(%v)) = %v, %v", b, x, e)
		return
	}
	for i, p := range b.Parts {
		f := x.Parts[i].Filter
		if len(f) > 16 || filter.Check(f) != api.OK || !samePoints(f, p.Filter) {
			t.Errorf("Unpack(Pack(%v)) has %v", b, f)
		}
		if len(p.Filter) > 16 {
			x.Parts[i].Filter = p.Filter
		}
	}
	if encode(x) != encode(b) {
		t.Errorf("Unpack(Pack(%v)) = %v", b, x)
	}
}

// P51, P13: Unpack inverts Pack, but no filter that it returns has more than
// 16 boxes.
func TestUnpack(t *testing.T) {
	all := slices.Repeat(from(0, 32), 40)
	l := []api.Batch{
		{},
		example(),
		sized(19990),
		sized(20000),
		{Parts: parts{{Filter: all[:16]}, {Filter: all[:17]}, {Filter: all}, {Filter: make(boxes, 16)}, {Filter: make(boxes, 40), Know: vec(1)}}},
		{Versions: slices.Repeat(example().Versions, 30), Gone: slices.Repeat([]api.Gone{{Id: "a"}}, 60), Parts: make(parts, 30)},
		{Versions: versions{{Id: "a", Dot: dot(0, 1), Past: api.Know{Vec: []int{0, 1000}, More: series(3, 2, 60)}}}},
	}
	r := random(3)
	for len(l) < 500 {
		if b := r.batch([]int{3, 16, 40}[r.below(3)]); len(encode(b)) <= 20000 {
			l = append(l, b)
		}
	}
	for _, b := range l {
		wantInverse(t, b)
	}
}

// P51: the fields of a response that was not written by Pack.
func TestUnpackExample(t *testing.T) {
	if b, e := wire.Unpack(packed); e != api.OK || !reflect.DeepEqual(b, example()) {
		t.Errorf("Unpack = %v, %v", b, e)
	}
	if b, e := wire.Unpack(strings.Repeat("\x00", 18)); e != api.OK || !reflect.DeepEqual(b, api.Batch{}) {
		t.Errorf("Unpack = %v, %v", b, e)
	}
}

// P51: each error, with those that are listed later.
func TestUnpackErrors(t *testing.T) {
	long, longer := encode(sized(20000)), encode(sized(20001))
	for _, c := range []struct {
		s string
		e api.Errno
	}{
		{long, api.OK},
		{longer, api.ErrLarge},
		{longer[:20000] + "x", api.ErrLarge},
		{strings.Repeat("a", 20001), api.ErrLarge},
		{strings.Repeat("\x00", 20001), api.ErrLarge},
		{strings.Repeat("\x00", 40000), api.ErrLarge},
		{"", api.ErrShort},
		{"a", api.ErrShort},
		{"\x00", api.ErrShort},
		{"ab", api.ErrShort},
		{"\x00\x00", api.ErrShort},
		{long[:19999] + "\xff", api.ErrSum},
		{strings.Repeat("a", 20000), api.ErrSum},
		{"abc", api.ErrSum},
		{"\x00\x00\x01", api.ErrSum},
		{"a\x00\x00", api.ErrSum},
		{"a\x00\x00a", api.ErrForm},
		{"\x01\x00\x00\x01", api.ErrForm},
		{"\x00\x00\x00", api.ErrForm},
		{strings.Repeat("\x00", 15), api.ErrForm},
		{strings.Repeat("\x00", 19), api.ErrForm},
		{strings.Repeat("\x00", 20000), api.ErrForm},
		{withSum("\x00\x00\x05" + strings.Repeat("\x00", 12)), api.ErrForm},
	} {
		b, e := wire.Unpack(c.s)
		if e != c.e || e != api.OK && !reflect.DeepEqual(b, api.Batch{}) {
			t.Errorf("Unpack(%.30q) of %d bytes = %v, %v, want %v", c.s, len(c.s), b, e, c.e)
		}
	}
}

// P51: a sum is a number below 65521, so one that differs by this is wrong.
func TestUnpackSum(t *testing.T) {
	for n := range 3000 {
		b := api.Batch{Versions: versions{{Id: "a", Dot: dot(0, 1), Body: n}}}
		body := encodeBody(b)
		for _, d := range []int{0, 1, 65521, 65536, -1} {
			var c encoding
			c.WriteString(body)
			c.numbers(max(0, sum(body)+d))
			if x, e := wire.Unpack(c.String()); (e == api.OK) != (d == 0) || e != api.OK && e != api.ErrSum {
				t.Errorf("Unpack(%q) = %v, %v", c.String(), x, e)
			}
		}
	}
}

// P51: every change of one byte, and every cut, changes the sum.
func TestUnpackChanged(t *testing.T) {
	for i := range len(packed) {
		for _, d := range []byte{1, 2, 16, 128, 255} {
			s := []byte(packed)
			s[i] += d
			if b, e := wire.Unpack(string(s)); e != api.ErrSum {
				t.Errorf("Unpack(%q) = %v, %v", s, b, e)
			}
		}
		if b, e := wire.Unpack(packed[:i]); e != api.ErrSum && i > 2 || e != api.ErrShort && i < 3 {
			t.Errorf("Unpack(%q) = %v, %v", packed[:i], b, e)
		}
	}
}

// P51: with the right sum, nothing may be missing, and nothing left.
func TestUnpackCut(t *testing.T) {
	for _, b := range []api.Batch{{}, example(), {Versions: example().Versions}, {Gone: example().Gone}, {Parts: example().Parts}} {
		body := encodeBody(b)
		for i := range len(body) {
			if x, is := wantForm(t, withSum(body[:i])); is {
				t.Errorf("%d bytes of %q are %v", i, body, x)
			}
		}
		for _, rest := range []string{"\x00", "\x01", "\x00\x00", "\x00\x00\x00", "\x00\x00\x01", "abcd", body, encode(b)} {
			if x, is := wantForm(t, withSum(body+rest)); is {
				t.Errorf("%q and %q are %v", body, rest, x)
			}
		}
	}
}

// P51: with the right sum, a changed byte leads to the response that is packed
// like this, if there is one.
func TestUnpackOther(t *testing.T) {
	body, valid := encodeBody(example()), 0
	for i := range len(body) {
		for c := range 256 {
			s := body[:i] + string([]byte{byte(c)}) + body[i+1:]
			if _, is := wantForm(t, withSum(s)); is {
				valid++
			}
		}
	}
	if valid < 1000 {
		t.Errorf("%d changed strings are responses", valid)
	}
}

// P51: a list that would be longer than the string ends it, however long.
func TestUnpackLengths(t *testing.T) {
	body := encodeBody(example()) + strings.Repeat("\x00", 9000)
	for i := range len(body) - 3 {
		for _, n := range []string{"\xff\xff\xff", "\x00\x00\x3d", "\x00\x0f\x00"} {
			wantForm(t, withSum(body[:i]+n))
			wantForm(t, withSum(body[:i]+n+body[i+3:]))
		}
	}
}

// P1, P51: a length costs nothing until its elements are there.
func TestUnpackMemory(t *testing.T) {
	body := encodeBody(example())
	var before, after runtime.MemStats
	for i := range len(body) - 3 {
		s := withSum(body[:i] + "\xff\xff\xff" + body[i+3:])
		runtime.ReadMemStats(&before)
		wire.Unpack(s)
		if runtime.ReadMemStats(&after); after.TotalAlloc-before.TotalAlloc > 1<<20 {
			t.Errorf("Unpack(%q) takes %d bytes of memory", s, after.TotalAlloc-before.TotalAlloc)
		}
	}
}

// encodable reports whether every number of a response has three bytes.
func encodable(b api.Batch) bool {
	is := true
	walk(reflect.ValueOf(b), func(v reflect.Value) {
		if v.Kind() == reflect.Int && (v.Int() < 0 || v.Int() >= 1<<24) {
			is = false
		}
	})
	return is
}

// P51: what is not valid is not a response, even if it is written like one.
func TestUnpackInvalid(t *testing.T) {
	n := 0
	everyFault(func(b api.Batch, _ api.Errno) {
		if s := encode(b); encodable(b) && len(s) <= 20000 {
			n++
			if x, is := wantForm(t, s); is {
				t.Errorf("Unpack(%q) = %v", s, x)
			}
		}
	})
	if n < 3000 {
		t.Errorf("%d responses can be written", n)
	}
}

// P51: of too many boxes, none is made fewer to be valid.
func TestUnpackManyBoxes(t *testing.T) {
	for _, bad := range []boxes{make(boxes, 41), append(make(boxes, 20), from(4, 4)...), append(make(boxes, 20), boxes{{Cube: api.Cube{Yes: 1, No: 1}}}...)} {
		for _, f := range []boxes{bad, append(slices.Clone(bad), make(boxes, 10)...)} {
			if x, is := wantForm(t, encode(api.Batch{Parts: parts{{Filter: f, Know: vec(1)}}})); is {
				t.Errorf("Unpack of %v = %v", f, x)
			}
		}
	}
}
