package wire

import (
	"slices"

	"gemel/api"
	"gemel/change"
	"gemel/num"
	"gemel/row"
	"gemel/vec"
)

// digestSize is how many bytes a digest has.
const digestSize = len(api.Digest{})

// reader reads the parts of a message, one behind the other. What it reads behind a part that was not there means nothing.
type reader struct {
	groups []api.Group
	rest   []byte // what is not read yet
	whole  bool   // whether all parts were there
}

// read reads the message of a form, whether it may be or not, and tells whether there is one.
func read(l []api.Group, form []byte) (api.Msg, bool) {
	r := &reader{groups: l, rest: form, whole: true}
	var m api.Msg
	m.Kind = r.number()
	m.Site = r.number()
	has := partsOf(m.Kind)
	if has.change {
		m.Change = r.change()
	}
	if has.counts {
		m.Ack = r.number()
		m.Own = r.number()
	}
	if has.path {
		m.Path = r.path()
	}
	m.Sums = r.sums(shapeOf(m.Kind).sums)
	if has.leaf {
		m.Know = take(r, vec.Get)
		m.Back = r.back()
		m.Rows = r.rows()
	}
	return m, r.whole && len(r.rest) == 0
}

// take tells the part with which the rest begins, and goes on behind it.
func take[T any](r *reader, get func([]byte) (T, int, api.Errno)) T {
	got, size, e := get(r.rest)
	r.whole = r.whole && e == api.OK
	r.rest = r.rest[size:]
	return got
}

func (r *reader) number() int { return take(r, num.Get) }

func (r *reader) change() api.Change {
	return take(r, func(b []byte) (api.Change, int, api.Errno) { return change.Get(b, r.groups) })
}

func (r *reader) row() api.Row {
	return take(r, func(b []byte) (api.Row, int, api.Errno) { return row.Get(b, r.groups) })
}

// upTo reads a number of at most so much. A greater one is told as 0, so that no long list is made for it.
func (r *reader) upTo(most int) int {
	n := r.number()
	if n > most {
		r.whole = false
		return 0
	}
	return n
}

// path reads how many numbers a path has, and each.
func (r *reader) path() []int {
	var out []int
	for range r.upTo(longest) {
		out = append(out, r.number())
	}
	return out
}

// sums reads so many digests.
func (r *reader) sums(n int) []api.Digest {
	size := n * digestSize
	if size > len(r.rest) {
		r.whole = false
		return nil
	}
	var out []api.Digest
	for d := range slices.Chunk(r.rest[:size], digestSize) {
		out = append(out, api.Digest(d))
	}
	r.rest = r.rest[size:]
	return out
}

// back reads whether a leaf is to be answered.
func (r *reader) back() bool {
	return r.upTo(isBack) == isBack
}

// rows reads how many rows there are, and each.
func (r *reader) rows() []api.Row {
	var out []api.Row
	for range r.upTo(api.MaxRows) {
		out = append(out, r.row())
	}
	return out
}
