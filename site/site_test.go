package site_test

import (
	"fmt"
	"maps"
	"math"
	"slices"
	"strings"
	"testing"

	"gemel/api"
	"gemel/change"
	"gemel/disk"
	"gemel/frontier"
	"gemel/model"
	"gemel/probe"
	"gemel/site"
	"gemel/stamp"
	"gemel/store"
	"gemel/vec"
	"gemel/wire"
)

// nobody is numbers that are no site's.
var nobody = []int{0, 3, -1, -2, 1<<32 + 1, math.MinInt, math.MaxInt}

// groups tells the schema of the chapters, a=last,b=delete.
func groups() []api.Group { return probe.Schemas()[2] }

// note tells a note.
func note(name, text string) api.Note { return api.Note{Name: name, Text: text} }

// knowNote, timeNote, ownNote, frontNote and lowNote tell what the notes of a site's store are to be.
func knowNote(v api.Vec) api.Note   { return note("know", string(vec.Put(nil, v))) }
func timeNote(s api.Stamp) api.Note { return note("time", string(stamp.Put(nil, s))) }
func lowNote(v api.Vec) api.Note    { return note("low", string(vec.Put(nil, v))) }
func ownNote(l []api.Group, c api.Change) api.Note {
	return note(fmt.Sprintf("o%013d", c.Seq), string(change.Put(nil, l, c)))
}
func frontNote(acked, stable, wait, until int) api.Note {
	return note("front", string(slices.Concat(probe.Laid(acked), probe.Laid(stable), probe.Laid(wait), probe.Laid(until))))
}

// put and gone tell writes.
func put(key string, group int, value string) api.Write {
	return api.Write{Key: key, Group: group, Value: value}
}
func gone(key string, group int) api.Write { return api.Write{Key: key, Group: group, Gone: true} }

// by tells a change of a site that knows its own ones alone.
func by(site, seq int, w ...api.Write) api.Change {
	c := api.Change{Site: site, Seq: seq, Stamp: api.Stamp{N: 10 * seq, Site: site}, Writes: w}
	c.Vec[site-1] = seq
	return c
}

// conf tells how a site of a schema is set up.
func conf(l []api.Group, n int) site.Conf {
	return site.Conf{Site: n, Groups: l, Size: 2000, Flight: 2, Wait: 3}
}

// want wants that a call answers that.
func want(t *testing.T, what string, got, e api.Errno) {
	t.Helper()
	if got != e {
		t.Fatalf("%s: %d, want %d", what, int(got), int(e))
	}
}

// open opens a site.
func open(t *testing.T, c site.Conf, d *disk.Disk) *site.Site {
	t.Helper()
	s, e := site.Open(c, d)
	want(t, "Open", e, api.OK)
	return s
}

// fresh tells a site of a schema on a new disk.
func fresh(t *testing.T, l []api.Group, n int) (*site.Site, *disk.Disk) {
	t.Helper()
	d := disk.New(probe.Ample)
	return open(t, conf(l, n), d), d
}

// laid tells a disk on which a store has rows and notes.
func laid(t *testing.T, l []api.Group, rows []api.Row, notes ...api.Note) *disk.Disk {
	t.Helper()
	d := disk.New(probe.Ample)
	s, e := store.Open(l, d, 2000)
	want(t, "Open", e, api.OK)
	notes = slices.Clone(notes)
	slices.SortFunc(notes, func(a, b api.Note) int { return strings.Compare(a.Name, b.Name) })
	if len(rows)+len(notes) > 0 {
		want(t, "Do", s.Do(store.Tx{Rows: rows, Notes: notes}), api.OK)
	}
	return d
}

// known tells notes of a site that has written so many changes, all pending behind acked, and knows so many of the other one.
func known(l []api.Group, n, acked, mine, theirs int) []api.Note {
	var v api.Vec
	v[n-1], v[2-n] = mine, theirs
	out := []api.Note{knowNote(v), frontNote(acked, 0, 0, 0)}
	for seq := acked + 1; seq <= mine; seq++ {
		out = append(out, ownNote(l, by(n, seq, put("k", 0, fmt.Sprint(seq)))))
	}
	return out
}

// bytesOf tells a message's bytes.
func bytesOf(t *testing.T, l []api.Group, m api.Msg) []byte {
	t.Helper()
	b, e := wire.Encode(l, m)
	want(t, "Encode", e, api.OK)
	return b
}

// dataOf, ackOf and leafOf tell messages.
func dataOf(c api.Change) api.Msg { return api.Msg{Kind: api.MsgData, Site: c.Site, Change: c} }
func ackOf(site, ack, own int) api.Msg {
	return api.Msg{Kind: api.MsgAck, Site: site, Ack: ack, Own: own}
}
func leafOf(site int, path []int, know api.Vec, back bool, rows ...api.Row) api.Msg {
	return api.Msg{Kind: api.MsgLeaf, Site: site, Path: path, Know: know, Back: back, Rows: rows}
}

// look tells all that a site tells of itself.
func look(s *site.Site) string {
	return fmt.Sprintf("rows %v, know %v, low %v, front %v, pending %v, on %t", s.Rows(), s.Know(), s.Low(), s.Front(), s.Pending(), s.On())
}

// short tells something as a text that can be read in a test's answer, however long it is.
func short(x any) string { return fmt.Sprintf("%.600s", fmt.Sprint(x)) }

// wantUnchanged wants that a call changes nothing.
func wantUnchanged(t *testing.T, s *site.Site, d *disk.Disk, call func()) {
	t.Helper()
	before, files, ops := look(s), probe.Files(d), d.Ops()
	call()
	if look(s) != before || !maps.Equal(probe.Files(d), files) || d.Ops() != ops {
		t.Fatalf("something has changed: %s, behind %s, %d operations", short(look(s)), short(before), d.Ops()-ops)
	}
}

// wantHear wants that a site hears a message, and that just these are sent then.
func wantHear(t *testing.T, l []api.Group, s *site.Site, m api.Msg, told ...api.Msg) {
	t.Helper()
	out, e := s.Hear(bytesOf(t, l, m))
	wantFrames(t, l, out, e, told...)
}

// wantSend wants that a site sends just these messages.
func wantSend(t *testing.T, l []api.Group, s *site.Site, now int, told ...api.Msg) {
	t.Helper()
	out, e := s.Send(now)
	wantFrames(t, l, out, e, told...)
}

// wantFrames wants just the frames of these messages.
func wantFrames(t *testing.T, l []api.Group, out [][]byte, e api.Errno, told ...api.Msg) {
	t.Helper()
	var frames [][]byte
	for _, m := range told {
		frames = append(frames, bytesOf(t, l, m))
	}
	if !slices.EqualFunc(out, frames, slices.Equal) || e != api.OK {
		t.Fatalf("told are %s, %d, want %s", short(out), int(e), short(frames))
	}
}

// wantRefused wants that a site refuses bytes, which change nothing.
func wantRefused(t *testing.T, s *site.Site, d *disk.Disk, b []byte, want api.Errno) {
	t.Helper()
	wantUnchanged(t, s, d, func() {
		if out, e := s.Hear(b); len(out) != 0 || e != want {
			t.Fatalf("Hear(%s) = %s, %d, want %d", short(b), short(out), int(e), int(want))
		}
	})
}

// noSites tells sites that no call made.
func noSites() []*site.Site {
	refused, _ := site.Open(site.Conf{}, nil)
	return []*site.Site{nil, {}, new(site.Site), refused}
}

// dead tells sites without power that owe an answer, with their disks: one whose power is gone, and one whose power has come back.
func dead(t *testing.T, l []api.Group) map[*site.Site]*disk.Disk {
	t.Helper()
	out := map[*site.Site]*disk.Disk{}
	for i := range 2 {
		s, d := fresh(t, l, 1)
		s.Write(5, []api.Write{put("k", 0, "x"), gone("m", 0)})
		wantHear(t, l, s, dataOf(by(2, 1, gone("k", 0))))
		d.Fail(math.MaxInt)
		if i == 1 {
			d.Power()
		}
		out[s] = d
	}
	return out
}

func TestExample(t *testing.T) { // the chapter's
	l := groups()
	a, _ := fresh(t, l, 1)
	b, _ := fresh(t, l, 2)
	c, e := a.Write(0, []api.Write{put("k", 0, "x")})
	want(t, "Write", e, api.OK)
	frames, e := a.Send(0)
	if len(frames) != 1 || e != api.OK || len(a.Pending()) != 1 {
		t.Fatalf("Send = %q, %d, pending %v", frames, int(e), a.Pending())
	}
	if out, e := b.Hear(frames[0]); len(out) != 0 || e != api.OK || b.Know() != c.Vec {
		t.Fatalf("Hear = %q, %d, know %v", out, int(e), b.Know())
	}
	frames, e = b.Send(0)
	if len(frames) != 1 || e != api.OK {
		t.Fatalf("Send = %q, %d", frames, int(e))
	}
	if out, e := a.Hear(frames[0]); len(out) != 0 || e != api.OK || len(a.Pending()) != 0 {
		t.Fatalf("Hear = %q, %d, pending %v", out, int(e), a.Pending())
	}
}

func TestNoSite(t *testing.T) { // a Site that no call made, whatever it is asked
	l := groups()
	for _, s := range noSites() {
		for range 2 {
			for _, w := range [][]api.Write{nil, {put("k", 0, "x")}} {
				if c, e := s.Write(-1, w); fmt.Sprint(c) != fmt.Sprint(api.Change{}) || e != api.ErrNil {
					t.Errorf("Write = %v, %d", c, int(e))
				}
			}
			for _, now := range []int{0, -1, math.MaxInt} {
				if out, e := s.Send(now); len(out) != 0 || e != api.ErrNil {
					t.Errorf("Send = %q, %d", out, int(e))
				}
			}
			for _, b := range [][]byte{nil, []byte("x"), bytesOf(t, l, ackOf(1, 0, 0)), bytesOf(t, l, dataOf(by(2, 1, put("k", 0, "x"))))} {
				if out, e := s.Hear(b); len(out) != 0 || e != api.ErrNil {
					t.Errorf("Hear = %q, %d", out, int(e))
				}
			}
			b, e := s.Ask()
			n, e2 := s.Collect()
			if len(b) != 0 || e != api.ErrNil || n != 0 || e2 != api.ErrNil || s.Check() != api.ErrNil || s.On() {
				t.Errorf("Ask = %q, %d, Collect = %d, %d, Check = %d, On %t", b, int(e), n, int(e2), int(s.Check()), s.On())
			}
			v, ok := s.Get("k")
			if v.Key != "" || len(v.Fields)+len(s.Scan("", "", 9))+len(s.Rows())+len(s.Pending()) != 0 || ok {
				t.Errorf("Get = %v, %t, Scan %v, %s", v, ok, s.Scan("", "", 9), look(s))
			}
			if s.Know() != (api.Vec{}) || s.Low() != (api.Vec{}) || s.Front() != (frontier.Front{}) {
				t.Errorf("%s", look(s))
			}
		}
	}
}

func TestNew(t *testing.T) { // P26.1 and P26.2: of a new disk all is 0
	for _, l := range probe.Schemas() {
		for _, n := range []int{1, 2} {
			s, d := fresh(t, l, n)
			for range 2 {
				if s.Front() != (frontier.Front{Site: n}) || s.Know() != (api.Vec{}) || s.Low() != (api.Vec{}) || len(s.Rows())+len(s.Pending())+len(s.Scan("", "", 9)) != 0 || !s.On() {
					t.Fatalf("%s", look(s))
				}
				wantSend(t, l, s, 0)
				s = open(t, conf(l, n), d)
			}
		}
	}
}

func TestWrite(t *testing.T) { // P26.2: apply's Local
	for _, l := range probe.Schemas() {
		for _, n := range []int{1, 2} {
			p := newMirrored(t, conf(l, n))
			for i, c := range probe.Changes(l) {
				if c.Site != n {
					p.hear(dataOf(by(c.Site, c.Seq, c.Writes...)))
				}
				p.write([]int{0, 9, math.MinInt, 40, api.MaxTime, 7, math.MaxInt, -1}[i], c.Writes)
			}
			p.write(3, nil)
			p.write(3, []api.Write{put("", 0, "x")})
			p.write(3, []api.Write{put("k", len(l), "x")})
			p.write(3, slices.Repeat([]api.Write{put("k", 0, "x"), put("k", 0, "y")}, 20))
		}
	}
	for s, d := range dead(t, groups()) {
		wantUnchanged(t, s, d, func() {
			if c, e := s.Write(0, nil); fmt.Sprint(c) != fmt.Sprint(api.Change{}) || e != api.ErrPower {
				t.Errorf("Write = %v, %d", c, int(e))
			}
		})
	}
}

func TestSeen(t *testing.T) { // P26.2: model's Get and Scan of its rows
	for _, l := range probe.Schemas() {
		for i, rows := range probe.States(l) {
			d := laid(t, l, rows)
			s := open(t, conf(l, 1+i%2), d)
			for range 2 {
				if !probe.SameRows(s.Rows(), rows) {
					t.Fatalf("Rows = %s, want %s", short(s.Rows()), short(rows))
				}
				for _, key := range []string{"", "\x00", "k", "k\x00", "kk", "\x7f", "\x80", "\xff", "\xff\x00", "\xff\xff", "none", strings.Repeat("k", 99)} {
					v, ok := s.Get(key)
					if x, there := model.Get(l, rows, key); fmt.Sprint(v) != fmt.Sprint(x) || ok != there {
						t.Fatalf("Get(%q) = %v, %t, want %v", key, v, ok, x)
					}
					for _, n := range []int{math.MinInt, -1, 0, 1, 2, math.MaxInt} {
						for _, until := range []string{"", "k", "\x80", "\xff\xff\xff"} {
							if got, x := s.Scan(key, until, n), model.Scan(l, rows, key, until, n); fmt.Sprint(got) != fmt.Sprint(x) {
								t.Fatalf("Scan(%q, %q, %d) = %v, want %v", key, until, n, got, x)
							}
						}
					}
				}
				s.Check()
				d.Fail(0) // what is there is told without power, too
			}
		}
	}
}

func TestKept(t *testing.T) { // P26.1 and P26.2: what the notes say is told, as from the beginning on
	l := groups()
	for _, n := range []int{1, 2} {
		for _, acked := range []int{0, 1, 3, 5} {
			for _, low := range []api.Vec{{}, {1, 0}, {63, 64}, {api.MaxSeq, api.MaxSeq}} {
				for _, f := range []frontier.Front{{}, {Stable: acked}, {Wait: acked, Until: 7}, {Stable: acked / 2, Wait: acked, Until: api.MaxSeq}, {Until: 1}} {
					f.Site, f.Acked = n, acked
					notes := known(l, n, acked, 5, 9)
					notes[1] = frontNote(f.Acked, f.Stable, f.Wait, f.Until)
					s := open(t, conf(l, n), laid(t, l, nil, append(notes, lowNote(low), note("other", ""), note("p", "x"))...))
					var pending []api.Change
					for seq := acked + 1; seq <= 5; seq++ {
						pending = append(pending, by(n, seq, put("k", 0, fmt.Sprint(seq))))
					}
					if s.Front() != f || s.Low() != low || s.Know()[n-1] != 5 || s.Know()[2-n] != 9 || fmt.Sprint(s.Pending()) != fmt.Sprint(pending) {
						t.Errorf("%s, want %v, %v, %v", look(s), f, low, pending)
					}
				}
			}
		}
	}
}

func TestCheck(t *testing.T) { // P26.2 and P26.9: store's
	p := newMirrored(t, conf(groups(), 1))
	for i, c := range probe.Changes(groups()) {
		p.write(i, c.Writes)
		p.check()
		p.reopen()
	}
	p.d.Arm(0, 0)
	if e := p.s.Check(); e != api.ErrPower || p.s.On() {
		t.Errorf("Check = %d, On %t", int(e), p.s.On())
	}
	for s, d := range dead(t, groups()) {
		wantUnchanged(t, s, d, func() { want(t, "Check", s.Check(), api.ErrPower) })
		if s.On() {
			t.Error("On without power")
		}
	}
}

// wantKnows wants how many changes a site knows.
func wantKnows(t *testing.T, s *site.Site, know api.Vec) {
	t.Helper()
	if s.Know() != know {
		t.Fatalf("Know = %v, want %v", s.Know(), know)
	}
}

func TestHandedInStays(t *testing.T) { // rule 4: what is handed in stays, and is not kept
	l := slices.Clone(groups())
	given, all := probe.Roomy(slices.Clone(l), api.Group{Name: "spare", Policy: 9})
	before := slices.Clone(all)
	s := open(t, conf(given, 1), disk.New(probe.Ample))
	if !slices.Equal(all, before) {
		t.Error("the groups have changed")
	}
	clear(all)
	writes, allWrites := probe.Roomy([]api.Write{put("z", 0, "x"), put("k", 1, "y"), put("k", 1, "z")}, gone("spare", 0))
	writesBefore := slices.Clone(allWrites)
	c, e := s.Write(0, writes)
	if e != api.OK || !slices.Equal(allWrites, writesBefore) {
		t.Errorf("Write: %d, writes %v", int(e), allWrites)
	}
	clear(allWrites)
	path := []int{8, 2}
	for _, m := range []api.Msg{dataOf(by(2, 1, put("k", 0, "far"))), ackOf(2, 1, 1), leafOf(2, path, api.Vec{9, 9}, true, probe.One(l, "k", 0, api.Cell{Stamp: api.Stamp{N: 99, Site: 2}}))} {
		frame, all := probe.Roomy(bytesOf(t, l, m), 7)
		before := slices.Clone(all)
		out, e := s.Hear(frame)
		if e != api.OK || !slices.Equal(all, before) {
			t.Errorf("Hear: %d", int(e))
		}
		told := look(s)
		clear(all)
		for _, b := range out {
			clear(b[:cap(b)])
		}
		if look(s) != told {
			t.Errorf("%s, want %s", look(s), told)
		}
	}
	clear(c.Writes[:cap(c.Writes)])
	wantKnows(t, s, api.Vec{1, 1})
	if v, ok := s.Get("k"); !ok || fmt.Sprint(v) != "{k [{0 } {1 z}]}" {
		t.Errorf("Get = %v", v)
	}
}

func TestHandedOutIsNew(t *testing.T) { // rule 4: what is handed out is new memory
	l := groups()
	a, _ := fresh(t, l, 1)
	for i, c := range probe.Changes(l) {
		a.Write(i, c.Writes)
	}
	wantHear(t, l, a, dataOf(by(2, 1, put("k", 0, "far"))))
	told := look(a)
	for range 2 {
		rows, pending, views := slices.Concat(a.Rows(), a.Rows()), slices.Concat(a.Pending(), a.Pending()), slices.Concat(a.Scan("", "", 99), a.Scan("", "", 99))
		var cells [][]api.Cell
		for _, r := range rows {
			cells = append(cells, r.Cells)
		}
		var writes [][]api.Write
		for _, c := range pending {
			writes = append(writes, c.Writes)
		}
		var fields [][]api.Field
		for _, v := range views {
			fields = append(fields, v.Fields)
		}
		frames, e := a.Send(100)
		b, e2 := a.Ask()
		if e != api.OK || e2 != api.OK || !probe.Apart(append(frames, b)...) || !probe.Apart(cells...) || !probe.Apart(writes...) || !probe.Apart(fields...) {
			t.Errorf("Send: %d, Ask: %d, or lists share memory", int(e), int(e2))
		}
		for _, l := range append(frames, b) {
			clear(l[:cap(l)])
		}
		for _, l := range cells {
			clear(l[:cap(l)])
		}
		for _, l := range writes {
			clear(l[:cap(l)])
		}
		if look(a) != told {
			t.Errorf("%s, want %s", look(a), told)
		}
	}
}
