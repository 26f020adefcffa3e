package apply_test

import (
	"fmt"
	"maps"
	"math"
	"slices"
	"strings"
	"testing"

	"gemel/api"
	"gemel/apply"
	"gemel/change"
	"gemel/disk"
	"gemel/model"
	"gemel/probe"
	"gemel/stamp"
	"gemel/store"
	"gemel/vec"
)

// nobody is numbers that are no site's.
var nobody = []int{0, 3, -1, -2, 1<<32 + 1, math.MinInt, math.MaxInt}

// groups tells the schema of the chapters, a=last,b=delete.
func groups() []api.Group { return probe.Schemas()[2] }

// note tells a note.
func note(name, text string) api.Note { return api.Note{Name: name, Text: text} }

// knowNote, timeNote and ownNote tell what the notes of a site's store are to be.
func knowNote(v api.Vec) api.Note   { return note("know", string(vec.Put(nil, v))) }
func timeNote(s api.Stamp) api.Note { return note("time", string(stamp.Put(nil, s))) }
func ownNote(l []api.Group, c api.Change) api.Note {
	return note(fmt.Sprintf("o%013d", c.Seq), string(change.Put(nil, l, c)))
}

// put and gone tell writes.
func put(key string, group int, value string) api.Write {
	return api.Write{Key: key, Group: group, Value: value}
}
func gone(key string, group int) api.Write { return api.Write{Key: key, Group: group, Gone: true} }

// sameRow tells whether two rows are.
func sameRow(a, b api.Row) bool { return a.Key == b.Key && slices.Equal(a.Cells, b.Cells) }

// sameChange tells whether two changes are.
func sameChange(a, b api.Change) bool {
	return a.Site == b.Site && a.Seq == b.Seq && a.Stamp == b.Stamp && a.Vec == b.Vec && slices.Equal(a.Writes, b.Writes)
}

// rowsOf tells all rows of a store.
func rowsOf(s *store.Store) []api.Row { return s.Scan("", "", math.MaxInt) }

// want wants that a call answers that.
func want(t *testing.T, what string, got, e api.Errno) {
	t.Helper()
	if got != e {
		t.Fatalf("%s: %d, want %d", what, int(got), int(e))
	}
}

// open opens a store.
func open(t *testing.T, l []api.Group, d *disk.Disk, size int) *store.Store {
	t.Helper()
	s, e := store.Open(l, d, size)
	want(t, "Open", e, api.OK)
	return s
}

// fresh tells a store of a new disk in which these notes are.
func fresh(t *testing.T, l []api.Group, notes ...api.Note) (*store.Store, *disk.Disk) {
	t.Helper()
	d := disk.New(probe.Ample)
	s := open(t, l, d, 1000)
	if len(notes) > 0 {
		want(t, "Do", s.Do(store.Tx{Notes: notes}), api.OK)
	}
	return s, d
}

// noStores tells stores that no call made.
func noStores() []*store.Store {
	refused, _ := store.Open(nil, disk.New(100), 100)
	return []*store.Store{nil, {}, new(store.Store), refused}
}

// dead tells stores without power, with what was put in ahead of that: one whose power is gone, and one whose power has come back.
func dead(t *testing.T, l []api.Group, notes ...api.Note) []*store.Store {
	t.Helper()
	s, d := fresh(t, l, notes...)
	d.Fail(0)
	other, d := fresh(t, l, notes...)
	d.Fail(0)
	d.Power()
	return []*store.Store{s, other}
}

// wantUnchanged wants that a call changes nothing.
func wantUnchanged(t *testing.T, s *store.Store, d *disk.Disk, call func()) {
	t.Helper()
	rows, notes, files, ops, sure, on := rowsOf(s), s.Notes(""), probe.Files(d), d.Ops(), s.Sure(), s.On()
	call()
	if !slices.EqualFunc(rowsOf(s), rows, sameRow) || !slices.Equal(s.Notes(""), notes) || !maps.Equal(probe.Files(d), files) || d.Ops() != ops || s.Sure() != sure || s.On() != on {
		t.Fatalf("something has changed: %v, %q, %d operations", rowsOf(s), s.Notes(""), d.Ops()-ops)
	}
}

// wantRefused wants that Local tells no change, and changes nothing.
func wantRefused(t *testing.T, l []api.Group, s *store.Store, d *disk.Disk, site, now int, w []api.Write, want api.Errno) {
	t.Helper()
	wantUnchanged(t, s, d, func() {
		if c, e := apply.Local(l, s, site, now, w); !sameChange(c, api.Change{}) || e != want {
			t.Fatalf("Local(%d, %d, %v) = %v, %d, want %d", site, now, w, c, int(e), int(want))
		}
	})
}

// wantPassed wants that Remote does nothing, and answers that.
func wantPassed(t *testing.T, l []api.Group, s *store.Store, d *disk.Disk, site int, c api.Change, want api.Errno) {
	t.Helper()
	wantUnchanged(t, s, d, func() {
		if ok, e := apply.Remote(l, s, site, c); ok || e != want {
			t.Fatalf("Remote(%d, %v) = %t, %d, want %d", site, c, ok, int(e), int(want))
		}
	})
}

// wantUnmerged wants that Merge does nothing, and answers that.
func wantUnmerged(t *testing.T, l []api.Group, s *store.Store, d *disk.Disk, rows []api.Row, want api.Errno) {
	t.Helper()
	wantUnchanged(t, s, d, func() {
		if ok, e := apply.Merge(l, s, rows); ok || e != want {
			t.Fatalf("Merge(%v) = %t, %d, want %d", rows, ok, int(e), int(want))
		}
	})
}

// mirrored is a site's store, and a mirror in which the transactions are done that its calls are to do.
type mirrored struct {
	t       *testing.T
	l       []api.Group
	site    int
	d, flat *disk.Disk
	s, m    *store.Store
	know    api.Vec
	time    api.Stamp
}

func newMirrored(t *testing.T, l []api.Group, site, size int) *mirrored {
	t.Helper()
	p := &mirrored{t: t, l: l, site: site, d: disk.New(probe.Ample), flat: disk.New(probe.Ample)}
	p.s, p.m = open(t, l, p.d, size), open(t, l, p.flat, size)
	return p
}

// same wants that both are the same, byte by byte.
func (p *mirrored) same() {
	p.t.Helper()
	if !slices.EqualFunc(rowsOf(p.s), rowsOf(p.m), sameRow) || !slices.Equal(p.s.Notes(""), p.m.Notes("")) {
		p.t.Fatalf("rows %v, notes %q, want %v, %q", rowsOf(p.s), p.s.Notes(""), rowsOf(p.m), p.m.Notes(""))
	}
	if p.d.Ops() != p.flat.Ops() || p.s.Sure() != p.m.Sure() || !maps.Equal(probe.Files(p.d), probe.Files(p.flat)) {
		p.t.Fatalf("%d operations, Sure %t, files %q, want %d, %t, %q", p.d.Ops(), p.s.Sure(), probe.Files(p.d), p.flat.Ops(), p.m.Sure(), probe.Files(p.flat))
	}
	if apply.Know(p.s) != p.know || apply.Time(p.s) != p.time {
		p.t.Fatalf("Know %v, Time %v, want %v, %v", apply.Know(p.s), apply.Time(p.s), p.know, p.time)
	}
}

// mirror does a transaction of rows, joined to those that are there, and of notes.
func (p *mirrored) mirror(rows []api.Row, notes ...api.Note) {
	p.t.Helper()
	var joined []api.Row
	for _, r := range rows {
		both := []api.Row{r}
		if there, ok := p.m.Get(r.Key); ok {
			both, _ = model.Merge(p.l, []api.Row{there}, both)
		}
		joined = append(joined, both...)
	}
	want(p.t, "Do", p.m.Do(store.Tx{Rows: joined, Notes: notes}), api.OK)
}

// local writes.
func (p *mirrored) local(now int, w ...api.Write) api.Change {
	p.t.Helper()
	p.know[p.site-1]++
	p.time = api.Stamp{N: max(p.time.N+1, min(now, api.MaxTime)), Site: p.site}
	want := api.Change{Site: p.site, Seq: p.know[p.site-1], Stamp: p.time, Vec: p.know, Writes: change.Canon(w)}
	rows, _ := change.Rows(p.l, want)
	p.mirror(rows, knowNote(p.know), ownNote(p.l, want), timeNote(p.time))
	p.m.Sync()
	c, e := apply.Local(p.l, p.s, p.site, now, w)
	if !sameChange(c, want) || e != api.OK {
		p.t.Fatalf("Local(%d, %v) = %v, %d, want %v", now, w, c, int(e), want)
	}
	p.same()
	return c
}

// remote puts in a change of the other site.
func (p *mirrored) remote(c api.Change) {
	p.t.Helper()
	p.know[c.Site-1] = c.Seq
	if stamp.Less(p.time, c.Stamp) {
		p.time = c.Stamp
	}
	rows, _ := change.Rows(p.l, c)
	p.mirror(rows, knowNote(p.know), timeNote(p.time))
	if ok, e := apply.Remote(p.l, p.s, p.site, c); !ok || e != api.OK {
		p.t.Fatalf("Remote(%v) = %t, %d", c, ok, int(e))
	}
	p.same()
}

// merge joins rows of which just these change something, so that the last stamp is that.
func (p *mirrored) merge(rows, changing []api.Row, last api.Stamp) {
	p.t.Helper()
	p.time = last
	p.mirror(changing, timeNote(last))
	if ok, e := apply.Merge(p.l, p.s, rows); !ok || e != api.OK {
		p.t.Fatalf("Merge(%v) = %t, %d", rows, ok, int(e))
	}
	p.same()
}

func TestExample(t *testing.T) { // the chapter's
	l := groups()
	a, da := fresh(t, l)
	b, db := fresh(t, l)
	c, e := apply.Local(l, a, 1, 0, []api.Write{put("k", 0, "x")})
	if !sameChange(c, api.Change{Site: 1, Seq: 1, Stamp: api.Stamp{N: 1, Site: 1}, Vec: api.Vec{1, 0}, Writes: []api.Write{put("k", 0, "x")}}) || e != api.OK {
		t.Errorf("Local = %v, %d", c, int(e))
	}
	if apply.Know(a) != (api.Vec{1, 0}) || a.Note("o0000000000001") != "\x01\x01\x02\x01\x00\x01\x01k\x00\x00\x01x" { // chapter 12's example
		t.Errorf("Know %v, notes %q", apply.Know(a), a.Notes(""))
	}
	if ok, e := apply.Remote(l, b, 2, c); !ok || e != api.OK {
		t.Errorf("Remote = %t, %d", ok, int(e))
	}
	wantPassed(t, l, b, db, 2, c, api.OK)
	wantPassed(t, l, a, da, 1, c, api.ErrOrigin)
}

func TestKnow(t *testing.T) { // P22.1
	for _, v := range []api.Vec{{}, {1, 0}, {0, 1}, {63, 64}, {64, 16384}, {1 << 30, 5}, {api.MaxSeq, 0}, {api.MaxSeq, api.MaxSeq}} {
		s, d := fresh(t, groups(), knowNote(v))
		for range 2 {
			if got := apply.Know(s); got != v {
				t.Errorf("Know = %v, want %v", got, v)
			}
			if got := apply.Time(s); got != (api.Stamp{}) {
				t.Errorf("Time = %v", got)
			}
			s.Sync()
			d.Fail(0) // what is in it is told without power, too
		}
	}
}

func TestKnowOfNone(t *testing.T) { // P22.1: without the note, and of another text
	s, d := fresh(t, groups())
	texts := []string{"", "\x05", "\x05\x40", "\x05\x06\x00", "\x05\x06\x07", "\x40\x05\x06", "\x05\x40\x06", "5 6", "\xff", "\x05\xff\xff\xff\xff\xff\xff\xff\xff", "\xc0\x00\x01\x00\x00\x00\x00\x01\x00", "\x00\xc0\x00\x01\x00\x00\x00\x00\x01", "\xff\xff\xff\xff\xff\xff\xff\xff\x05", strings.Repeat("\x01", api.MaxNote)}
	for _, text := range texts {
		want(t, "Do", s.Do(store.Tx{Notes: []api.Note{note("Know", "\x05\x06"), note("know", text), note("know2", "\x05\x06"), note("time", "\x05\x06")}}), api.OK)
		wantUnchanged(t, s, d, func() {
			if got := apply.Know(s); got != (api.Vec{}) {
				t.Errorf("Know of %.40q = %v", text, got)
			}
		})
	}
	for _, s := range noStores() {
		if got := apply.Know(s); got != (api.Vec{}) {
			t.Errorf("Know of no store = %v", got)
		}
	}
}

func TestTime(t *testing.T) { // P22.1
	for _, x := range []api.Stamp{{}, {N: 1, Site: 1}, {N: 1, Site: 2}, {N: 31, Site: 2}, {N: 32, Site: 1}, {N: 1 << 40, Site: 2}, {N: api.MaxCount, Site: 1}, {N: api.MaxCount, Site: 2}} {
		s, d := fresh(t, groups(), timeNote(x))
		for range 2 {
			if got := apply.Time(s); got != x {
				t.Errorf("Time = %v, want %v", got, x)
			}
			if got := apply.Know(s); got != (api.Vec{}) {
				t.Errorf("Know = %v", got)
			}
			s.Sync()
			d.Fail(0)
		}
	}
}

func TestTimeOfNone(t *testing.T) { // P22.1
	s, d := fresh(t, groups())
	for _, text := range []string{"", "\x01", "\x40", "\x05\x00", "\x05\x06", "\x40\x05", "2a", "\xff", "\xc0", "\xc0\x02\x00\x00\x00\x00\x00\x02", "\xff\xff\xff\xff\xff\xff\xff\xff"} {
		want(t, "Do", s.Do(store.Tx{Notes: []api.Note{note("know", "\x05"), note("tim", "\x05"), note("time", text), note("timed", "\x05")}}), api.OK)
		wantUnchanged(t, s, d, func() {
			if got := apply.Time(s); got != (api.Stamp{}) {
				t.Errorf("Time of %q = %v", text, got)
			}
		})
	}
	for _, s := range noStores() {
		if got := apply.Time(s); got != (api.Stamp{}) {
			t.Errorf("Time of no store = %v", got)
		}
	}
}

func TestFresh(t *testing.T) { // P22.2: a change of each site at, below and above what is known
	l := groups()
	for _, from := range []int{1, 2} {
		for _, count := range []int{0, 1, 2, 63, 64, 1 << 30, api.MaxSeq - 1, api.MaxSeq} {
			for _, seq := range []int{1, 2, count - 2, count - 1, count, count + 1, count + 2, count + 3, 2 * count, api.MaxSeq} {
				if seq < 1 || seq > api.MaxSeq {
					continue
				}
				c := api.Change{Site: from, Seq: seq, Stamp: api.Stamp{N: 3, Site: from}, Writes: []api.Write{put("k", 1, "x")}}
				c.Vec[from-1] = seq
				for _, other := range []int{0, 7, seq, api.MaxSeq} { // how many of its own this site knows plays no part
					var know api.Vec
					know[from-1], know[2-from] = count, other
					wantE := api.OK
					if seq-count > 1 {
						wantE = api.ErrGap
					}
					if ok, e := apply.Fresh(l, 3-from, know, c); ok != (seq == count+1) || e != wantE {
						t.Errorf("Fresh(%d, %v, %d) = %t, %d, want %d", 3-from, know, seq, ok, int(e), int(wantE))
					}
					if ok, e := apply.Fresh(l, from, know, c); ok || e != api.ErrOrigin { // ahead of ErrGap, and of an old one
						t.Errorf("Fresh of an own one (%d, %v, %d) = %t, %d", from, know, seq, ok, int(e))
					}
				}
			}
		}
	}
}

func TestFreshOfAny(t *testing.T) { // P22.2: of all schemas
	for _, l := range probe.Schemas() {
		for _, c := range probe.Changes(l) {
			for count := range 7 {
				ok, e := apply.Fresh(l, 3-c.Site, api.Vec{count, count}, c)
				if c.Seq > count+1 && e != api.ErrGap || c.Seq <= count+1 && e != api.OK || ok != (c.Seq == count+1) {
					t.Errorf("Fresh(%d, %v) = %t, %d", count, c, ok, int(e))
				}
			}
		}
	}
}

// badVecs is counts that may not be.
var badVecs = []api.Vec{{-1, 0}, {0, -1}, {api.MaxSeq + 1, 0}, {0, api.MaxSeq + 1}, {math.MaxInt, math.MaxInt}, {math.MinInt, math.MinInt}}

func TestFreshErrorsInOrder(t *testing.T) { // P22.2
	wantNot := func(l []api.Group, site int, know api.Vec, c api.Change, want api.Errno) {
		t.Helper()
		if ok, e := apply.Fresh(l, site, know, c); ok || e != want {
			t.Fatalf("Fresh(%v, %d, %v, %v) = %t, %d, want %d", l, site, know, c, ok, int(e), int(want))
		}
	}
	for _, l := range probe.Schemas() {
		for _, c := range slices.Concat(probe.Changes(l), probe.NoChanges(l)) {
			for _, site := range nobody {
				wantNot(l, site, api.Vec{}, c, api.ErrArg)
				wantNot(nil, site, api.Vec{-1, 0}, c, api.ErrArg)
			}
			for _, know := range badVecs {
				wantNot(l, 1, know, c, api.ErrArg)
				wantNot(nil, 2, know, c, api.ErrArg)
			}
			for _, x := range probe.NoSchemas() {
				wantNot(x.Groups, 2, api.Vec{9, 9}, c, x.Err)
				wantNot(x.Groups, 1, api.Vec{}, c, x.Err)
			}
		}
		for _, c := range probe.NoChanges(l) { // ahead of where it comes from, and of its Seq
			wantNot(l, 1, api.Vec{}, c, api.ErrChange)
			wantNot(l, 2, api.Vec{9, 9}, c, api.ErrChange)
		}
	}
}
