package store

import (
	"slices"

	"gemel/api"
	"gemel/frame"
	"gemel/num"
	"gemel/row"
)

// txBytes tells a transaction's form.
func txBytes(l []api.Group, t Tx) []byte {
	b := num.Put(nil, len(t.Rows))
	for _, r := range t.Rows {
		b = append(b, row.Put(nil, l, r)...)
	}
	b = append(b, num.Put(nil, len(t.Notes))...)
	for _, n := range t.Notes {
		b = append(b, noteBytes(n)...)
	}
	return b
}

// noteBytes tells a note's name and text as bytes.
func noteBytes(n api.Note) []byte {
	return num.PutText(num.PutText(nil, n.Name), n.Text)
}

// readTx tells the transaction whose form a record is, and whether there is one that Good takes.
func readTx(l []api.Group, rec []byte) (Tx, bool) {
	held, at, e := getList(rec, rowsOf(l))
	if e != api.OK {
		return Tx{}, false
	}
	texts, size, e := getList(rec[at:], getNote)
	if e != api.OK || at+size < len(rec) {
		return Tx{}, false
	}
	t := Tx{Rows: held, Notes: texts}
	return t, Good(l, t) == nil
}

// getList reads how many things there are, and each, and tells how many bytes that is in all.
func getList[T any](b []byte, get func([]byte) (T, int, api.Errno)) ([]T, int, api.Errno) {
	count, at, e := num.Get(b)
	if e != api.OK {
		return nil, 0, e
	}
	var out []T
	for range count {
		x, size, e := get(b[at:])
		if e != api.OK {
			return nil, 0, e
		}
		out = append(out, x)
		at += size
	}
	return out, at, api.OK
}

// rowsOf tells what gets the rows of a schema.
func rowsOf(l []api.Group) func([]byte) (api.Row, int, api.Errno) {
	return func(b []byte) (api.Row, int, api.Errno) { return row.Get(b, l) }
}

// getNote reads the note with which bytes begin, and tells how many bytes it has.
func getNote(b []byte) (api.Note, int, api.Errno) {
	name, at, e := num.GetText(b, api.MaxFileName)
	if e != api.OK {
		return api.Note{}, 0, e
	}
	text, size, e := num.GetText(b[at:], api.MaxNote)
	if e != api.OK {
		return api.Note{}, 0, e
	}
	return api.Note{Name: name, Text: text}, at + size, api.OK
}

// checkBytes tells the bytes of a checkpoint that holds these rows and notes.
func checkBytes(l []api.Group, t Tx) []byte {
	b := frame.Wrap(num.Put(num.Put(nil, len(t.Rows)), len(t.Notes)))
	for _, r := range t.Rows {
		b = append(b, frame.Wrap(row.Put(nil, l, r))...)
	}
	for _, n := range t.Notes {
		b = append(b, frame.Wrap(noteBytes(n))...)
	}
	return b
}

// readCheck tells what a checkpoint of these bytes holds, and whether it is right.
func readCheck(l []api.Group, b []byte) (Tx, bool) {
	bodies, _, e := frame.Rows(b)
	if e != api.OK || len(bodies) == 0 {
		return Tx{}, false
	}
	counts, e := num.All(bodies[0])
	bodies = bodies[1:]
	if e != api.OK || len(counts) != 2 || !mayCount(counts[0], counts[1]) || counts[0]+counts[1] != len(bodies) {
		return Tx{}, false
	}
	held, allRows := getEach(bodies[:counts[0]], rowsOf(l))
	texts, allNotes := getEach(bodies[counts[0]:], getNote)
	t := Tx{Rows: held, Notes: texts}
	return t, allRows && allNotes && isHeld(l, t)
}

// mayCount tells whether a store may hold so many rows and notes.
func mayCount(rowCount, noteCount int) bool {
	return rowCount <= api.MaxRows && noteCount <= api.MaxNotes
}

// getEach reads what bodies are, each of them one thing and no more, and tells whether all are.
func getEach[T any](bodies [][]byte, get func([]byte) (T, int, api.Errno)) ([]T, bool) {
	var out []T
	for _, b := range bodies {
		x, size, e := get(b)
		if e != api.OK || size < len(b) {
			return nil, false
		}
		out = append(out, x)
	}
	return out, true
}

// isHeld tells whether rows and notes may be all that a store holds.
func isHeld(l []api.Group, t Tx) bool {
	return fault(l, t) == nil && !slices.ContainsFunc(t.Rows, row.Bare) && !slices.ContainsFunc(t.Notes, isBlank)
}
