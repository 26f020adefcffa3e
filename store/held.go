package store

import (
	"cmp"
	"slices"
	"strings"

	"gemel/api"
	"gemel/row"
	"gemel/sorted"
)

// rows is rows in order, none of them bare.
type rows struct {
	kept *sorted.Map
}

// newRows tells no rows.
func newRows() rows {
	return rows{sorted.New()}
}

// put puts a row in the place of the one with its key; none is there then, if it is bare. The map refuses no row that Good takes.
func (k *rows) put(r api.Row) {
	if row.Bare(r) {
		k.kept.Drop(r.Key)
	} else {
		k.kept.Set(r)
	}
}

// has tells whether there is a row of a key.
func (k *rows) has(key string) bool {
	_, there := k.kept.Get(key)
	return there
}

// count tells how many rows there are.
func (k *rows) count() int {
	return k.kept.Len()
}

// all tells all rows in order.
func (k *rows) all() []api.Row {
	return k.kept.Scan("", "", k.count())
}

// notes is notes in order of their names, none without text.
type notes []api.Note

// isBlank tells whether a note has no text.
func isBlank(n api.Note) bool {
	return n.Text == ""
}

// find tells where the first note stands whose name is not below this one, and whether it is that name's.
func (k notes) find(name string) (int, bool) {
	return slices.BinarySearchFunc(k, name, func(n api.Note, name string) int { return cmp.Compare(n.Name, name) })
}

// put puts a note in the place of the one with its name; none is there then, if it has no text.
func (k *notes) put(n api.Note) {
	at, there := k.find(n.Name)
	switch {
	case there && isBlank(n):
		*k = slices.Delete(*k, at, at+1)
	case there:
		(*k)[at] = n
	case !isBlank(n):
		*k = slices.Insert(*k, at, n)
	}
}

// has tells whether there is a note of a name.
func (k notes) has(name string) bool {
	_, there := k.find(name)
	return there
}

// text tells a note's text; nothing, if there is no such note.
func (k notes) text(name string) string {
	at, there := k.find(name)
	if !there {
		return ""
	}
	return k[at].Text
}

// begun tells the notes whose names begin with a prefix, in order: they stand side by side.
func (k notes) begun(prefix string) []api.Note {
	var out []api.Note
	at, _ := k.find(prefix)
	for _, n := range k[at:] {
		if !strings.HasPrefix(n.Name, prefix) {
			break
		}
		out = append(out, n)
	}
	return out
}
