package wire

import (
	"strings"

	"reedmace/api"
)

// reader takes from what is left to decode. It is short once that was less
// than it needed: what it reads from then on means nothing.
type reader struct {
	rest  string
	short bool
}

func (r *reader) batch() api.Batch {
	return api.Batch{
		Site:     r.number(),
		Stamp:    r.number(),
		Versions: readList(r, r.version),
		Gone:     readList(r, r.gone),
		Parts:    readList(r, r.part),
	}
}

func (r *reader) version() api.Version {
	return api.Version{
		Id:    r.name(),
		Dot:   r.dot(),
		Point: api.Point{Tags: r.number(), Num: r.number()},
		Body:  r.number(),
		Past:  r.know(),
	}
}

func (r *reader) gone() api.Gone {
	return api.Gone{Id: r.name(), Past: r.know()}
}

func (r *reader) part() api.Part {
	return api.Part{Filter: readList(r, r.box), Know: r.know()}
}

func (r *reader) box() api.Box {
	return api.Box{
		Cube:  api.Cube{Yes: r.number(), No: r.number()},
		Spans: readList(r, r.span),
	}
}

func (r *reader) span() api.Span {
	return api.Span{From: r.number(), To: r.number()}
}

func (r *reader) know() api.Know {
	return api.Know{Vec: readList(r, r.number), More: readList(r, r.dot)}
}

func (r *reader) dot() api.Dot {
	return api.Dot{Site: r.number(), Count: r.number()}
}

// name returns a copy, because a part of a string keeps all of it in memory.
func (r *reader) name() string {
	return strings.Clone(r.take(r.number()))
}

func (r *reader) number() int {
	n := 0
	for _, b := range []byte(r.take(numberBytes)) {
		n = n<<8 | int(b)
	}
	return n
}

// take returns the next n bytes, or none if there are fewer.
func (r *reader) take(n int) string {
	if n > len(r.rest) {
		r.short = true
		return ""
	}
	s := r.rest[:n]
	r.rest = r.rest[n:]
	return s
}

// readList reads the length of a list and each element. It stops where the
// reader becomes short: the length may be made up.
func readList[T any](r *reader, read func() T) []T {
	var l []T
	n := r.number()
	for len(l) < n && !r.short {
		l = append(l, read())
	}
	return l
}
