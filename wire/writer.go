package wire

import "reedmace/api"

// numberBytes is the length of an encoded number.
const numberBytes = 3

// writer appends to what is encoded so far. Its methods and those of reader
// are in the same order, field by field.
type writer struct {
	bytes []byte
}

func (w *writer) batch(b api.Batch) {
	w.number(b.Site)
	w.number(b.Stamp)
	writeList(w, b.Versions, w.version)
	writeList(w, b.Gone, w.gone)
	writeList(w, b.Parts, w.part)
}

func (w *writer) version(v api.Version) {
	w.name(v.Id)
	w.dot(v.Dot)
	w.number(v.Point.Tags)
	w.number(v.Point.Num)
	w.number(v.Body)
	w.know(v.Past)
}

func (w *writer) gone(g api.Gone) {
	w.name(g.Id)
	w.know(g.Past)
}

func (w *writer) part(p api.Part) {
	writeList(w, p.Filter, w.box)
	w.know(p.Know)
}

func (w *writer) box(b api.Box) {
	w.number(b.Cube.Yes)
	w.number(b.Cube.No)
	writeList(w, b.Spans, w.span)
}

func (w *writer) span(s api.Span) {
	w.number(s.From)
	w.number(s.To)
}

func (w *writer) know(k api.Know) {
	writeList(w, k.Vec, w.number)
	writeList(w, k.More, w.dot)
}

func (w *writer) dot(d api.Dot) {
	w.number(d.Site)
	w.number(d.Count)
}

func (w *writer) name(s string) {
	w.number(len(s))
	w.bytes = append(w.bytes, s...)
}

func (w *writer) number(n int) {
	w.bytes = append(w.bytes, byte(n>>16), byte(n>>8), byte(n))
}

// writeList writes the length of a list and each element.
func writeList[T any](w *writer, l []T, write func(T)) {
	w.number(len(l))
	for _, x := range l {
		write(x)
	}
}
