package change

import (
	"gemel/api"
	"gemel/num"
	"gemel/stamp"
	"gemel/vec"
)

// reader reads the parts of a change, one behind the other. Its steps tell whether there was such a part.
type reader struct {
	rest   []byte // what is not read yet
	change api.Change
	write  api.Write // the one that is read now
}

// read reads the change with which bytes begin, whether it may be or not, and tells how many bytes it has, and whether there is one.
func read(b []byte) (api.Change, int, bool) {
	r := &reader{rest: b}
	if !all(r.site, r.seq, r.stamp, r.vec, r.writes) {
		return api.Change{}, 0, false
	}
	return r.change, len(b) - len(r.rest), true
}

// all goes step by step, and tells whether it came behind the last one.
func all(steps ...func() bool) bool {
	for _, step := range steps {
		if !step() {
			return false
		}
	}
	return true
}

// take keeps the part with which the rest begins, goes on behind it, and tells whether there is one.
func take[T any](r *reader, kept *T, get func([]byte) (T, int, api.Errno)) bool {
	got, size, e := get(r.rest)
	*kept, r.rest = got, r.rest[size:]
	return e == api.OK
}

// text tells what gets a text of at most so many bytes.
func text(most int) func([]byte) (string, int, api.Errno) {
	return func(b []byte) (string, int, api.Errno) { return num.GetText(b, most) }
}

func (r *reader) site() bool  { return take(r, &r.change.Site, num.Get) }
func (r *reader) seq() bool   { return take(r, &r.change.Seq, num.Get) }
func (r *reader) stamp() bool { return take(r, &r.change.Stamp, stamp.Get) }
func (r *reader) vec() bool   { return take(r, &r.change.Vec, vec.Get) }

// writes reads how many writes there are, and each.
func (r *reader) writes() bool {
	var count int
	if !take(r, &count, num.Get) || count > api.MaxWrites { // so that bytes of many writes make no long list
		return false
	}
	for range count {
		r.write = api.Write{}
		if !all(r.key, r.group, r.gone, r.value) {
			return false
		}
		r.change.Writes = append(r.change.Writes, r.write)
	}
	return true
}

func (r *reader) key() bool   { return take(r, &r.write.Key, text(api.MaxKey)) }
func (r *reader) group() bool { return take(r, &r.write.Group, num.Get) }

// gone reads whether the write is a delete.
func (r *reader) gone() bool {
	var n int
	ok := take(r, &n, num.Get)
	r.write.Gone = n == isGone
	return ok && (n == isGone || n == notGone)
}

// value reads the value, which a delete has none of.
func (r *reader) value() bool {
	return r.write.Gone || take(r, &r.write.Value, text(api.MaxValue))
}
