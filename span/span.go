// Package span represents sets of the integers 0 to 31 as sorted lists of
// intervals: see doc/01-span.md.
package span

import (
	"math/bits"

	"reedmace/api"
)

// maxInts is how many integers Of takes (P4).
const maxInts = 400

// mask is a set of integers: bit n is set if n is in it. Operations on lists
// go through masks, because the list of a set is unique: whatever the
// operation, the intervals that come out are sorted, apart and not adjacent.
type mask uint32

// Check validates a set.
func Check(l []api.Span) api.Errno {
	if len(l) > api.MaxSpans {
		return api.ErrLarge
	}
	for i, s := range l {
		if s.From < 0 || s.To > api.MaxNum || s.From >= s.To {
			return api.ErrArg
		}
		if i > 0 && s.From <= l[i-1].To {
			return api.ErrForm
		}
	}
	return api.OK
}

// Of returns the set of the given integers.
func Of(l []int) ([]api.Span, api.Errno) {
	if len(l) > maxInts {
		return nil, api.ErrLarge
	}
	var m mask
	for _, n := range l {
		if !isNum(n) {
			return nil, api.ErrArg
		}
		m |= 1 << n
	}
	return list(m), api.OK
}

// Has reports whether n is in the set.
func Has(l []api.Span, n int) (bool, api.Errno) {
	if e := Check(l); e != api.OK {
		return false, e
	}
	return isNum(n) && has(maskOf(l), n), api.OK
}

// Join returns the union of a and b.
func Join(a, b []api.Span) ([]api.Span, api.Errno) {
	return combine(a, b, func(x, y mask) mask { return x | y })
}

// Meet returns the intersection of a and b.
func Meet(a, b []api.Span) ([]api.Span, api.Errno) {
	return combine(a, b, func(x, y mask) mask { return x & y })
}

// Less returns the difference of a and b.
func Less(a, b []api.Span) ([]api.Span, api.Errno) {
	return combine(a, b, func(x, y mask) mask { return x &^ y })
}

// Within reports whether a is a subset of b.
func Within(a, b []api.Span) (bool, api.Errno) {
	if e := checkBoth(a, b); e != api.OK {
		return false, e
	}
	return maskOf(a)&^maskOf(b) == 0, api.OK
}

// Count returns the number of elements.
func Count(l []api.Span) (int, api.Errno) {
	if e := Check(l); e != api.OK {
		return 0, e
	}
	return bits.OnesCount32(uint32(maskOf(l))), api.OK
}

func checkBoth(a, b []api.Span) api.Errno {
	if e := Check(a); e != api.OK {
		return e
	}
	return Check(b)
}

func combine(a, b []api.Span, op func(x, y mask) mask) ([]api.Span, api.Errno) {
	if e := checkBoth(a, b); e != api.OK {
		return nil, e
	}
	return list(op(maskOf(a), maskOf(b))), api.OK
}

func isNum(n int) bool {
	return n >= 0 && n < api.MaxNum
}

func has(m mask, n int) bool {
	return m&(1<<n) != 0
}

func maskOf(l []api.Span) mask {
	var m mask
	for _, s := range l {
		for n := s.From; n < s.To; n++ {
			m |= 1 << n
		}
	}
	return m
}

func list(m mask) []api.Span {
	var l []api.Span
	for n := range api.MaxNum {
		if !has(m, n) {
			continue
		}
		if k := len(l); k > 0 && l[k-1].To == n {
			l[k-1].To++
		} else {
			l = append(l, api.Span{From: n, To: n + 1})
		}
	}
	return l
}
