package store_test

import (
	"fmt"
	"maps"
	"slices"
	"strings"
	"testing"

	"gemel/api"
	"gemel/disk"
	"gemel/frame"
	"gemel/probe"
	"gemel/row"
	"gemel/store"
)

const greatest = 999_999_999_999 // that a file's name tells

// groups tells the schema of the chapters, a=last,b=delete.
func groups() []api.Group { return probe.Schemas()[2] }

// rowOf tells a row by a schema; one of another number is another one.
func rowOf(l []api.Group, key string, number int) api.Row {
	r := bare(l, key)
	for i, g := range l {
		c := api.Cell{Stamp: api.Stamp{N: number + 1, Site: 1 + number%2}, Vec: api.Vec{number, i}}
		switch {
		case g.Policy == api.DeleteWins:
			c.Dead, c.Value = api.Vec{i, number % 3}, fmt.Sprint(number)
		case (number+i)%3 == 0:
			c.Gone = true
		default:
			c.Value = fmt.Sprint(number)
		}
		r.Cells[i] = c
	}
	return r
}

// bare tells a bare row by a schema.
func bare(l []api.Group, key string) api.Row {
	return api.Row{Key: key, Cells: make([]api.Cell, len(l))}
}

// note tells a note; one without text takes the one of that name away.
func note(name, text string) api.Note { return api.Note{Name: name, Text: text} }

// ofRows and ofNotes tell transactions.
func ofRows(rows ...api.Row) store.Tx    { return store.Tx{Rows: rows} }
func ofNotes(notes ...api.Note) store.Tx { return store.Tx{Notes: notes} }

// manyRows tells a transaction of rows of numbers, by the schema of the chapters; bare ones, if they are to go.
func manyRows(from, until int, gone bool) store.Tx {
	var t store.Tx
	for i := from; i < until; i++ {
		r := rowOf(groups(), fmt.Sprintf("row%05d", i), i)
		if gone {
			r = bare(groups(), r.Key)
		}
		t.Rows = append(t.Rows, r)
	}
	return t
}

// manyNotes tells a transaction of notes of numbers, each with this text.
func manyNotes(from, until int, text string) store.Tx {
	var t store.Tx
	for i := from; i < until; i++ {
		t.Notes = append(t.Notes, note(fmt.Sprintf("note%05d", i), text))
	}
	return t
}

// laidText tells what a text's bytes are to be.
func laidText(s string) string { return string(probe.Laid(len(s))) + s }

// noteBytes tells what a note's bytes are to be.
func noteBytes(n api.Note) string { return laidText(n.Name) + laidText(n.Text) }

// formOf tells what a transaction's form is to be.
func formOf(l []api.Group, t store.Tx) string {
	out := string(probe.Laid(len(t.Rows)))
	for _, r := range t.Rows {
		out += string(row.Put(nil, l, r))
	}
	out += string(probe.Laid(len(t.Notes)))
	for _, n := range t.Notes {
		out += noteBytes(n)
	}
	return out
}

// framed tells frames of these bodies, one behind the other.
func framed(bodies ...string) string {
	var out []byte
	for _, b := range bodies {
		out = append(out, frame.Wrap([]byte(b))...)
	}
	return string(out)
}

// checkOf tells what the bytes of a checkpoint that holds these rows and notes are to be.
func checkOf(l []api.Group, t store.Tx) string {
	bodies := []string{string(probe.Laid(len(t.Rows))) + string(probe.Laid(len(t.Notes)))}
	for _, r := range t.Rows {
		bodies = append(bodies, string(row.Put(nil, l, r)))
	}
	for _, n := range t.Notes {
		bodies = append(bodies, noteBytes(n))
	}
	return framed(bodies...)
}

// segName and checkName tell what names of files are to be.
func segName(n int) string   { return fmt.Sprintf("w%012d", n) }
func checkName(n int) string { return fmt.Sprintf("c%012d", n) }

// segOf tells what a segment of transactions is to be.
func segOf(l []api.Group, txs ...store.Tx) string {
	out := ""
	for _, t := range txs {
		out += framed(formOf(l, t))
	}
	return out
}

// plain is what a store is to hold, told in another way than the program tells it.
type plain struct {
	rows  map[string]api.Row
	notes map[string]string
}

// nothing tells what a new store is to hold.
func nothing() plain {
	return plain{map[string]api.Row{}, map[string]string{}}
}

// behind tells what is to be held behind transactions.
func (p plain) behind(txs ...store.Tx) plain {
	out := plain{maps.Clone(p.rows), maps.Clone(p.notes)}
	for _, t := range txs {
		for _, r := range t.Rows {
			out.rows[r.Key] = api.Row{Key: r.Key, Cells: slices.Clone(r.Cells)}
			if !slices.ContainsFunc(r.Cells, func(c api.Cell) bool { return c != api.Cell{} }) {
				delete(out.rows, r.Key)
			}
		}
		for _, n := range t.Notes {
			out.notes[n.Name] = n.Text
			if len(n.Text) == 0 {
				delete(out.notes, n.Name)
			}
		}
	}
	return out
}

// all tells all that is held as one transaction, in order.
func (p plain) all() store.Tx {
	var t store.Tx
	for _, key := range slices.Sorted(maps.Keys(p.rows)) {
		t.Rows = append(t.Rows, p.rows[key])
	}
	for _, name := range slices.Sorted(maps.Keys(p.notes)) {
		t.Notes = append(t.Notes, note(name, p.notes[name]))
	}
	return t
}

// sameRow tells whether two rows are.
func sameRow(a, b api.Row) bool {
	return a.Key == b.Key && slices.Equal(a.Cells, b.Cells)
}

// sameTx tells whether two transactions are.
func sameTx(a, b store.Tx) bool {
	return slices.EqualFunc(a.Rows, b.Rows, sameRow) && slices.Equal(a.Notes, b.Notes)
}

// short tells the beginning of what is to be told of a transaction.
func short(t store.Tx) string { return fmt.Sprintf("%.400q", fmt.Sprint(t)) }

// held tells all that a store tells of rows and notes.
func held(s *store.Store) store.Tx {
	return store.Tx{Rows: s.Scan("", "", 1<<40), Notes: s.Notes("")}
}

// wantHeld wants that a store holds just that.
func wantHeld(t *testing.T, s *store.Store, want plain) {
	t.Helper()
	if got := held(s); !sameTx(got, want.all()) || s.Len() != len(want.rows) {
		t.Fatalf("Len %d, %s, want %s", s.Len(), short(got), short(want.all()))
	}
	for key, r := range want.rows {
		if got, ok := s.Get(key); !ok || !sameRow(got, r) {
			t.Fatalf("Get(%q) = %v, %t, want %v", key, got, ok, r)
		}
	}
	for name, text := range want.notes {
		if got := s.Note(name); got != text {
			t.Fatalf("Note(%q) = %.100q, want %.100q", name, got, text)
		}
	}
}

// open opens a store that is to hold just that.
func open(t *testing.T, l []api.Group, d *disk.Disk, size int, want plain) *store.Store {
	t.Helper()
	s, e := store.Open(l, d, size)
	if s == nil || e != api.OK {
		t.Fatalf("Open: %d", int(e))
	}
	wantHeld(t, s, want)
	if !s.Sure() || !s.On() {
		t.Fatalf("behind Open: Sure %t, On %t", s.Sure(), s.On())
	}
	return s
}

// laid tells a disk with these files, all sure.
func laid(t *testing.T, files map[string]string) *disk.Disk {
	t.Helper()
	d := probe.Disk(files)
	if d == nil {
		t.Fatalf("no disk has the files %.200q", files)
	}
	return d
}

// wantFiles wants that a disk has just these files.
func wantFiles(t *testing.T, d *disk.Disk, want map[string]string) {
	t.Helper()
	if got := probe.Files(d); !maps.Equal(got, want) {
		t.Fatalf("files %.200q, want %.200q", got, want)
	}
}

// want wants that a call answers that.
func want(t *testing.T, what string, got, e api.Errno) {
	t.Helper()
	if got != e {
		t.Fatalf("%s: %d, want %d", what, int(got), int(e))
	}
}

// wantRefused wants that a transaction is refused, and that nothing of it is to be seen, now or behind an opening.
func wantRefused(t *testing.T, d *disk.Disk, s *store.Store, tx store.Tx, e api.Errno) {
	t.Helper()
	before, files, sure, on, ops := held(s), probe.Files(d), s.Sure(), s.On(), d.Ops()
	want(t, "Do", s.Do(tx), e)
	if !sameTx(held(s), before) || s.Sure() != sure || s.On() != on || d.Ops() != ops {
		t.Fatalf("what was refused has changed something: %s, Sure %t, On %t, Ops %d", short(held(s)), s.Sure(), s.On(), d.Ops())
	}
	wantFiles(t, d, files)
}

// wantDone wants that a transaction is done.
func wantDone(t *testing.T, s *store.Store, now plain, tx store.Tx) plain {
	t.Helper()
	want(t, "Do", s.Do(tx), api.OK)
	behind := now.behind(tx)
	wantHeld(t, s, behind)
	if s.Sure() || !s.On() {
		t.Fatalf("behind Do: Sure %t, On %t", s.Sure(), s.On())
	}
	return behind
}

// texts tells names or keys that rise: ones that begin others, and bytes of all kinds.
func texts() []string {
	return []string{"\x00", "\x00\x00", "a", "a\x00", "aa", "ab", "b", "k", "kk", "k\x7f", "k\x80", "k\xff", "o0000000000007", "z", "\xc3\xa9", "\xff", "\xff\xff", strings.Repeat("\xff", api.MaxFileName)}
}

func TestExample(t *testing.T) { // the chapter's
	d := disk.New(10000)
	l := groups()[:1]
	s := open(t, l, d, 100, nothing())
	x := nothing().behind(ofNotes(note("n", "x")))
	wantDone(t, s, nothing(), ofNotes(note("n", "x")))
	d.Fail(0)
	d.Power()
	s = open(t, l, d, 100, nothing())
	wantDone(t, s, nothing(), ofNotes(note("n", "x")))
	want(t, "Sync", s.Sync(), api.OK)
	d.Fail(0)
	d.Power()
	open(t, l, d, 100, x)
}

func TestNoStore(t *testing.T) { // P18.3 and P18.4: a Store that no call made
	var none *store.Store
	var zero store.Store
	refused, _ := store.Open(nil, disk.New(100), 100)
	for _, s := range []*store.Store{none, &zero, {}, refused} {
		for range 2 {
			for _, tx := range []store.Tx{{}, manyRows(0, 1, false), manyNotes(0, 600, "x"), ofNotes(note("", ""))} {
				want(t, "Do", s.Do(tx), api.ErrNil)
			}
			want(t, "Sync", s.Sync(), api.ErrNil)
			want(t, "Check", s.Check(), api.ErrNil)
			for _, name := range append(texts(), "") {
				if r, ok := s.Get(name); ok || r.Key != "" || len(r.Cells) > 0 || s.Note(name) != "" || len(s.Notes(name)) > 0 || len(s.Scan(name, "", 5)) > 0 {
					t.Errorf("a Store that no call made tells something of %q", name)
				}
			}
			if s.Len() != 0 || s.Sure() || s.On() {
				t.Errorf("Len %d, Sure %t, On %t", s.Len(), s.Sure(), s.On())
			}
		}
	}
}

func TestGet(t *testing.T) { // P18.4
	for _, l := range probe.Schemas() {
		d := disk.New(probe.Ample)
		s := open(t, l, d, 100, nothing())
		now := nothing()
		for i, key := range texts() {
			if i%2 == 0 {
				now = wantDone(t, s, now, ofRows(rowOf(l, key, i)))
			}
		}
		for range 2 {
			for i, key := range append(texts(), "", "A", "kkk", "\xfe") {
				r, ok := s.Get(key)
				if _, there := now.rows[key]; ok != there || ok && !sameRow(r, rowOf(l, key, i)) || !ok && (r.Key != "" || len(r.Cells) > 0) {
					t.Errorf("Get(%q) = %v, %t", key, r, ok)
				}
			}
			s = open(t, l, d, 100, now)
		}
	}
}

func TestScan(t *testing.T) { // P18.4: as sorted's, at its edges
	l := groups()
	d := disk.New(probe.Ample)
	s := open(t, l, d, 100, nothing())
	now := nothing()
	for i, key := range texts() {
		now = wantDone(t, s, now, ofRows(rowOf(l, key, i)))
	}
	for range 2 {
		for _, from := range append(texts(), "", "aaa", "\xff\xff\xff") {
			for _, until := range append(texts(), "", "kj") {
				for _, n := range []int{-1 << 63, -1, 0, 1, 2, 5, 1 << 40, 1<<63 - 1} {
					var rows []api.Row
					for _, r := range now.all().Rows {
						if r.Key >= from && (until == "" || r.Key < until) && len(rows) < n {
							rows = append(rows, r)
						}
					}
					if got := s.Scan(from, until, n); !slices.EqualFunc(got, rows, sameRow) {
						t.Fatalf("Scan(%q, %q, %d) = %v, want %v", from, until, n, got, rows)
					}
				}
			}
		}
		want(t, "Check", s.Check(), api.OK)
		s = open(t, l, d, 100, now)
	}
}

func TestNotes(t *testing.T) { // P18.4: of any prefix
	l := groups()
	d := disk.New(probe.Ample)
	s := open(t, l, d, 100, nothing())
	now := nothing()
	for i, name := range texts() {
		now = wantDone(t, s, now, ofNotes(note(name, fmt.Sprint("text", i))))
	}
	for range 2 {
		for _, prefix := range append(texts(), "", "kkk", "o", "o00", "o0000000000008", "A", "\xc3", "\xfe", strings.Repeat("\xff", 99)) {
			var notes []api.Note
			for _, n := range now.all().Notes {
				if len(n.Name) >= len(prefix) && n.Name[:len(prefix)] == prefix {
					notes = append(notes, n)
				}
			}
			if got := s.Notes(prefix); !slices.Equal(got, notes) {
				t.Errorf("Notes(%q) = %v, want %v", prefix, got, notes)
			}
			if got := s.Note(prefix); got != now.notes[prefix] {
				t.Errorf("Note(%q) = %q", prefix, got)
			}
		}
		want(t, "Check", s.Check(), api.OK)
		s = open(t, l, d, 100, now)
	}
}

func TestHandedInStays(t *testing.T) { // rules 4 and 8
	for _, l := range probe.Schemas() {
		given, allGroups := probe.Roomy(slices.Clone(l), api.Group{Name: "spare", Policy: 9})
		d := disk.New(probe.Ample)
		s := open(t, given, d, 100, nothing())
		tx := store.Tx{Rows: []api.Row{rowOf(l, "a", 1), bare(l, "b"), rowOf(l, "c", 2)}, Notes: []api.Note{note("a", "x"), note("b", ""), note("c", "y")}}
		now := nothing().behind(tx)
		var cells [][]api.Cell
		for i, r := range tx.Rows {
			var all []api.Cell
			tx.Rows[i].Cells, all = probe.Roomy(r.Cells, api.Cell{Gone: true})
			cells = append(cells, all)
		}
		var allRows []api.Row
		var allNotes []api.Note
		tx.Rows, allRows = probe.Roomy(tx.Rows, api.Row{Key: "spare"})
		tx.Notes, allNotes = probe.Roomy(tx.Notes, note("spare", "z"))
		groupsBefore, rowsBefore, notesBefore := slices.Clone(allGroups), slices.Clone(allRows), slices.Clone(allNotes)
		var cellsBefore [][]api.Cell
		for _, all := range cells {
			cellsBefore = append(cellsBefore, slices.Clone(all))
		}
		if err := store.Good(given, tx); err != nil {
			t.Error(err)
		}
		want(t, "Do", s.Do(tx), api.OK)
		want(t, "Check", s.Check(), api.OK)
		if !slices.Equal(allGroups, groupsBefore) || !slices.EqualFunc(allRows, rowsBefore, sameRow) || !slices.Equal(allNotes, notesBefore) || !slices.EqualFunc(cells, cellsBefore, slices.Equal) {
			t.Error("what was handed in has changed")
		}
		clear(allGroups)
		clear(allNotes)
		for i := range cells {
			clear(cells[i])
		}
		clear(allRows)
		wantHeld(t, s, now)
		now = wantDone(t, s, now, ofRows(rowOf(l, "d", 4))) // by the schema as it was
		want(t, "Check", s.Check(), api.OK)
		open(t, l, d, 100, now)
	}
}

func TestHandedOutIsNew(t *testing.T) { // rules 4 and 8
	l := groups()
	d := disk.New(probe.Ample)
	s := open(t, l, d, 100, nothing())
	tx := manyRows(0, 9, false)
	tx.Notes = manyNotes(0, 9, "x").Notes
	now := wantDone(t, s, nothing(), tx)
	var rows []api.Row
	for range 2 {
		rows = append(rows, s.Scan("", "", 100)...)
		r, _ := s.Get("row00003")
		rows = append(rows, r)
	}
	var cells [][]api.Cell
	for _, r := range rows {
		if slices.ContainsFunc(r.Cells[len(r.Cells):cap(r.Cells)], func(c api.Cell) bool { return c != api.Cell{} }) {
			t.Errorf("spare room of %q has something", r.Key)
		}
		cells = append(cells, r.Cells)
	}
	if !probe.Apart(cells...) || !probe.Apart(s.Scan("", "", 9), s.Scan("", "", 9)) || !probe.Apart(s.Notes(""), s.Notes(""), s.Notes("note00003")) {
		t.Error("lists that were handed out share memory")
	}
	for _, all := range cells {
		for i := range all[:cap(all)] {
			all[:cap(all)][i] = api.Cell{Gone: true}
		}
	}
	for _, prefix := range []string{"", "note00003", "none"} {
		list := s.Notes(prefix)
		for i, n := range list[:cap(list)] {
			if i >= len(list) && n != (api.Note{}) {
				t.Errorf("spare room has %v", n)
			}
			list[:cap(list)][i] = note("spoilt", "spoilt")
		}
	}
	wantHeld(t, s, now)
	want(t, "Check", s.Check(), api.OK)
	open(t, l, d, 100, now)
}
