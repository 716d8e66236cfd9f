// Package cube represents sets of tag combinations by the tags that must and
// must not be present: see doc/02-cube.md.
package cube

import (
	"math/bits"

	"reedmace/api"
)

// allTags is the combination of all tags.
const allTags = 1<<api.MaxTags - 1

// Check validates a cube.
func Check(c api.Cube) api.Errno {
	if !areTags(c.Yes) || !areTags(c.No) {
		return api.ErrArg
	}
	if c.Yes&c.No != 0 {
		return api.ErrForm
	}
	return api.OK
}

// Has reports whether a combination of tags is in the cube.
func Has(c api.Cube, tags int) (bool, api.Errno) {
	if e := Check(c); e != api.OK {
		return false, e
	}
	if !areTags(tags) {
		return false, api.ErrArg
	}
	return c.Yes&^tags == 0 && c.No&tags == 0, api.OK
}

// Meet returns the intersection of two cubes, or ErrNone if it is empty.
func Meet(a, b api.Cube) (api.Cube, api.Errno) {
	if e := checkBoth(a, b); e != api.OK {
		return api.Cube{}, e
	}
	if apart(a, b) {
		return api.Cube{}, api.ErrNone
	}
	return api.Cube{Yes: a.Yes | b.Yes, No: a.No | b.No}, api.OK
}

// Within reports whether a is a subset of b.
func Within(a, b api.Cube) (bool, api.Errno) {
	if e := checkBoth(a, b); e != api.OK {
		return false, e
	}
	// A valid cube is never empty, so a is only within b if it has every
	// demand of b.
	return b.Yes&^a.Yes == 0 && b.No&^a.No == 0, api.OK
}

// Less returns at most 4 disjoint cubes whose union is the difference of a
// and b.
func Less(a, b api.Cube) ([]api.Cube, api.Errno) {
	if e := checkBoth(a, b); e != api.OK {
		return nil, e
	}
	if apart(a, b) {
		return []api.Cube{a}, api.OK
	}
	// Each tag that b demands and a leaves open cuts off the half of the
	// rest that does not meet the demand. The halves are disjoint because
	// each is cut off from what the earlier ones left.
	var l []api.Cube
	rest := a
	for i := range api.MaxTags {
		tag := 1 << i
		switch {
		case (b.Yes&^a.Yes)&tag != 0:
			l = append(l, api.Cube{Yes: rest.Yes, No: rest.No | tag})
			rest.Yes |= tag
		case (b.No&^a.No)&tag != 0:
			l = append(l, api.Cube{Yes: rest.Yes | tag, No: rest.No})
			rest.No |= tag
		}
	}
	return l, api.OK
}

// Count returns the number of combinations in the cube.
func Count(c api.Cube) (int, api.Errno) {
	if e := Check(c); e != api.OK {
		return 0, e
	}
	open := allTags &^ (c.Yes | c.No)
	return 1 << bits.OnesCount(uint(open)), api.OK
}

func areTags(tags int) bool {
	return tags >= 0 && tags <= allTags
}

func checkBoth(a, b api.Cube) api.Errno {
	if e := Check(a); e != api.OK {
		return e
	}
	return Check(b)
}

// apart reports whether two cubes have no combination in common, which is so
// only if one demands a tag that the other one excludes.
func apart(a, b api.Cube) bool {
	return a.Yes&b.No != 0 || a.No&b.Yes != 0
}
