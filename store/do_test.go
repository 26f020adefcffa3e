package store_test

import (
	"fmt"
	"maps"
	"strings"
	"testing"

	"gemel/api"
	"gemel/disk"
	"gemel/probe"
	"gemel/store"
	"gemel/wal"
)

func TestDo(t *testing.T) { // P18.3 and P18.4: what is there takes its place, and goes
	for _, l := range probe.Schemas() {
		for _, size := range []int{1, 60, 1 << 20} {
			d := disk.New(probe.Ample)
			s := open(t, l, d, size, nothing())
			now := nothing()
			log := ""
			for _, tx := range steps(l) {
				now = wantDone(t, s, now, tx)
				open(t, l, d, size, now)
				log += framed(formOf(l, tx))
			}
			got := ""
			for _, b := range inOrder(probe.Files(d)) {
				got += b
			}
			if got != log {
				t.Errorf("the log is %.300q, want %.300q", got, log)
			}
		}
	}
}

// inOrder tells the files' bytes, in order of their names.
func inOrder(files map[string]string) []string {
	var out []string
	for n := 1; len(out) < len(files); n++ {
		if b, there := files[segName(n)]; there {
			out = append(out, b)
		}
	}
	return out
}

func TestDoAgain(t *testing.T) { // P18.3: the same transaction, and one that takes away what is not there
	l := groups()
	d := disk.New(probe.Ample)
	s := open(t, l, d, 100, nothing())
	now := nothing()
	for _, tx := range []store.Tx{some(l), some(l), manyNotes(0, 3, ""), manyRows(0, 3, true), some(l), {Rows: []api.Row{bare(l, "b")}, Notes: []api.Note{note("b", "")}}, {Rows: []api.Row{bare(l, "b")}, Notes: []api.Note{note("b", "")}}} {
		now = wantDone(t, s, now, tx)
	}
	open(t, l, d, 100, now)
}

func TestDoNumbers(t *testing.T) { // P18.3 and P18.8: Good's number
	for _, l := range probe.Schemas() {
		d := disk.New(probe.Ample)
		s := open(t, l, d, 100, nothing())
		now := wantDone(t, s, nothing(), some(l))
		wantRefused(t, d, s, store.Tx{}, api.ErrArg)
		for _, x := range probe.NoRows(l) {
			wantRefused(t, d, s, ofRows(x.Row), x.Err)
			wantRefused(t, d, s, store.Tx{Rows: []api.Row{rowOf(l, "\x00", 1), x.Row}, Notes: some(l).Notes}, x.Err)
		}
		wantRefused(t, d, s, ofRows(rowOf(l, "k", 1), rowOf(l, "k", 1)), api.ErrArg)
		wantRefused(t, d, s, ofNotes(note("", "x")), api.ErrArg)
		wantRefused(t, d, s, store.Tx{Rows: some(l).Rows, Notes: []api.Note{note("n", "x"), note("m", "x")}}, api.ErrArg)
		wantRefused(t, d, s, ofNotes(note("n", strings.Repeat("x", api.MaxNote+1))), api.ErrLong)
		open(t, l, d, 100, now)
	}
}

func TestDoErrorsInOrder(t *testing.T) { // P18.3
	l := groups()
	much, faulty := manyRows(0, api.MaxRows+1, false), manyRows(0, api.MaxRows+1, false)
	faulty.Rows[api.MaxRows].Cells = nil
	d := disk.New(probe.Ample)
	s := open(t, l, d, 100, nothing())
	want(t, "Arm", d.Arm(0, 0), api.OK) // a plan strikes nothing that is refused
	wantRefused(t, d, s, faulty, api.ErrRow)
	wantRefused(t, d, s, much, api.ErrRoom)
	if !d.On() {
		t.Fatal("no power")
	}
	d.Fail(0)
	for range 2 {
		for _, tx := range []store.Tx{{}, faulty, much, ofNotes(note("n", "x"))} {
			want(t, "Do", s.Do(tx), api.ErrPower)
			wantHeld(t, s, nothing())
		}
		d.Power()
	}
}

func TestDoMostRows(t *testing.T) { // P18.3: as many rows as may be, and one more
	l := groups()
	d := disk.New(probe.Ample)
	s := open(t, l, d, 1<<20, nothing())
	wantRefused(t, d, s, manyRows(0, api.MaxRows+1, false), api.ErrRoom)
	now := wantDone(t, s, nothing(), manyRows(1, api.MaxRows, false))
	wantRefused(t, d, s, manyRows(api.MaxRows, api.MaxRows+2, false), api.ErrRoom)
	now = wantDone(t, s, now, manyRows(api.MaxRows, api.MaxRows+1, false)) // MaxRows are there
	for range 2 {
		if s.Len() != api.MaxRows {
			t.Fatalf("Len %d", s.Len())
		}
		one := rowOf(l, "row99999", 1)
		wantRefused(t, d, s, ofRows(one), api.ErrRoom)
		wantRefused(t, d, s, ofRows(rowOf(l, "row00001", 5), one), api.ErrRoom)
		wantRefused(t, d, s, ofRows(bare(l, "row00000"), one), api.ErrRoom) // that one is not there
		wantRefused(t, d, s, ofRows(rowOf(l, "row00000", 1), bare(l, "row00001"), one), api.ErrRoom)
		wantRefused(t, d, s, store.Tx{Rows: []api.Row{one}, Notes: []api.Note{note("n", "x")}}, api.ErrRoom)
		now = wantDone(t, s, now, ofRows(rowOf(l, "row00007", 9), bare(l, "row99998"), bare(l, "row99999")))
		now = wantDone(t, s, now, ofRows(rowOf(l, "row00000", 1), bare(l, "row00001"))) // as many come as go
		now = wantDone(t, s, now, ofRows(bare(l, "row00000"), rowOf(l, "row00001", 3)))
		now = wantDone(t, s, now, ofRows(bare(l, "row00002"), bare(l, "row00003"), rowOf(l, "row99998", 1), rowOf(l, "row99999", 2)))
		now = wantDone(t, s, now, ofRows(rowOf(l, "row00002", 2), rowOf(l, "row00003", 3), bare(l, "row99998"), bare(l, "row99999")))
		s = open(t, l, d, 1<<20, now)
	}
	now = wantDone(t, s, now, manyRows(0, 2*api.MaxRows, true)) // all go, and more that are not there
	if s.Len() != 0 {
		t.Fatalf("Len %d", s.Len())
	}
	wantDone(t, s, now, manyRows(500, 500+api.MaxRows, false))
}

func TestDoMostNotes(t *testing.T) { // P18.3: as many notes as may be, and one more
	l := groups()
	d := disk.New(probe.Ample)
	s := open(t, l, d, 1<<20, nothing())
	wantRefused(t, d, s, manyNotes(0, api.MaxNotes+1, "x"), api.ErrRoom)
	now := wantDone(t, s, nothing(), manyNotes(1, api.MaxNotes, "x"))
	wantRefused(t, d, s, manyNotes(api.MaxNotes, api.MaxNotes+2, "x"), api.ErrRoom)
	now = wantDone(t, s, now, manyNotes(api.MaxNotes, api.MaxNotes+1, "x"))
	for range 2 {
		one := note("note99999", "x")
		wantRefused(t, d, s, ofNotes(one), api.ErrRoom)
		wantRefused(t, d, s, ofNotes(note("note00001", "y"), one), api.ErrRoom)
		wantRefused(t, d, s, ofNotes(note("note00000", ""), one), api.ErrRoom)
		wantRefused(t, d, s, ofNotes(note("note00000", "x"), note("note00001", ""), one), api.ErrRoom)
		wantRefused(t, d, s, store.Tx{Rows: some(l).Rows, Notes: []api.Note{one}}, api.ErrRoom)
		now = wantDone(t, s, now, ofNotes(note("note00007", "z"), note("note99998", ""), note("note99999", "")))
		now = wantDone(t, s, now, ofNotes(note("note00000", "x"), note("note00001", "")))
		now = wantDone(t, s, now, ofNotes(note("note00000", ""), note("note00001", "y")))
		now = wantDone(t, s, now, ofNotes(note("note00002", ""), one))
		now = wantDone(t, s, now, ofNotes(note("note00002", "back"), note("note99999", "")))
		s = open(t, l, d, 1<<20, now)
	}
	now = wantDone(t, s, now, manyNotes(0, 2*api.MaxNotes, ""))
	if len(s.Notes("")) != 0 {
		t.Fatalf("notes %v", s.Notes(""))
	}
	most := manyNotes(0, api.MaxNotes, "x")
	most.Rows = manyRows(0, api.MaxRows, false).Rows
	wantDone(t, s, now, most)
}

// ofBytes tells a transaction of notes whose form has just so many bytes, some thousands.
func ofBytes(size int) store.Tx {
	full := noteBytes(note("note00000", strings.Repeat("x", api.MaxNote)))
	tx := manyNotes(0, size/len(full), strings.Repeat("x", api.MaxNote))
	tx.Notes = append(tx.Notes, note("p", strings.Repeat("p", 100)))
	left := size - len(formOf(nil, tx))
	if left < 0 { // the last one but one has to be shorter
		n := len(tx.Notes) - 2
		tx.Notes[n].Text = tx.Notes[n].Text[:api.MaxNote-200]
		left += 200
	}
	tx.Notes[len(tx.Notes)-1].Text += strings.Repeat("p", left)
	return tx
}

func TestDoLong(t *testing.T) { // P18.3: a record of MaxRecord bytes, and longer ones
	l := groups()
	for _, size := range []int{1, 1 << 20} {
		d := disk.New(probe.Ample)
		s := open(t, l, d, size, nothing())
		for _, more := range []int{1, 2, 1000, 100000} {
			tx := ofBytes(api.MaxRecord + more)
			if n := len(formOf(l, tx)); n != api.MaxRecord+more {
				t.Fatalf("a form of %d bytes", n)
			}
			wantRefused(t, d, s, tx, api.ErrRoom)
		}
		wantRefused(t, d, s, manyRows(0, 50000, true), api.ErrRoom) // of rows that are not there
		now := wantDone(t, s, nothing(), ofBytes(api.MaxRecord))
		now = wantDone(t, s, now, ofBytes(api.MaxRecord-1))
		open(t, l, d, size, now)
	}
}

func TestDoWithoutRoom(t *testing.T) { // P18.3 and P18.8: wal's error for want of room on the disk
	l := groups()
	tx := ofNotes(note("n", strings.Repeat("x", 50)))
	need := len(segOf(l, tx))
	for room := range 3*need + 2 {
		d := disk.New(room)
		s := open(t, l, d, 1<<20, nothing())
		now := nothing()
		for range room / need {
			now = wantDone(t, s, now, tx)
		}
		wantRefused(t, d, s, tx, api.ErrRoom)
		open(t, l, d, 1<<20, now)
	}
	d := disk.New(2*need + 1) // a segment is made ahead of what is refused
	s := open(t, l, d, 1, nothing())
	now := wantDone(t, s, nothing(), tx)
	now = wantDone(t, s, now, ofNotes(note("n", strings.Repeat("y", 50))))
	for range 2 {
		want(t, "Do", s.Do(tx), api.ErrRoom)
		wantHeld(t, s, now)
		if !s.Sure() { // wal has synced the segment behind which it made one
			t.Error("not sure")
		}
		wantFiles(t, d, map[string]string{segName(1): segOf(l, tx), segName(2): segOf(l, ofNotes(note("n", strings.Repeat("y", 50)))), segName(3): ""})
	}
	open(t, l, d, 1, now)
}

func TestDoWithoutFiles(t *testing.T) { // P18.3: wal's error for want of files
	l := groups()
	d := disk.New(probe.Ample)
	s := open(t, l, d, 1, nothing())
	now := nothing()
	for i := range api.MaxFiles {
		now = wantDone(t, s, now, ofNotes(note("n", fmt.Sprint(i))))
	}
	for range 2 {
		want(t, "Do", s.Do(some(l)), api.ErrRoom)
		want(t, "Check", s.Check(), api.ErrRoom) // no file for it either
		wantHeld(t, s, now)
	}
	open(t, l, d, 1, now)
}

func TestDoAtGreatest(t *testing.T) { // P18.3: the log takes no more records
	l := groups()
	d := laid(t, map[string]string{segName(greatest - 1): "", checkName(greatest - 1): checkOf(l, odd(l, 1).all())})
	s := open(t, l, d, 100, odd(l, 1))
	now := wantDone(t, s, odd(l, 1), some(l))
	wantRefused(t, d, s, some(l), api.ErrRoom)
	want(t, "Check", s.Check(), api.OK)
	wantFiles(t, d, map[string]string{segName(greatest - 1): segOf(l, some(l)), checkName(greatest): checkOf(l, now.all())})
	s = open(t, l, d, 100, now)
	want(t, "Check", s.Check(), api.OK)
	files := map[string]string{segName(greatest): segOf(l, some(l)), checkName(greatest): checkOf(l, odd(l, 1).all())}
	d = laid(t, files) // a log that somebody laid may have a record more: no checkpoint's name tells Next then
	s = open(t, l, d, 100, odd(l, 1).behind(some(l)))
	wantRefused(t, d, s, some(l), api.ErrRoom)
	want(t, "Check", s.Check(), api.ErrArg)
	wantFiles(t, d, files)
	open(t, l, d, 100, odd(l, 1).behind(some(l)))
}

func TestPower(t *testing.T) { // P18.3, P18.4 and P18.8: a disk whose power failed since the store was opened
	l := groups()
	for _, keep := range keeps {
		d := disk.New(probe.Ample)
		s := open(t, l, d, 100, nothing())
		now := wantDone(t, s, nothing(), steps(l)[0])
		want(t, "Sync", s.Sync(), api.OK)
		now = wantDone(t, s, now, steps(l)[1])
		d.Fail(keep)
		files, fails := probe.Files(d), d.Fails()
		for _, on := range []bool{false, true} {
			if on {
				d.Power()
				files = probe.Files(d)
			}
			for range 2 {
				want(t, "Do", s.Do(some(l)), api.ErrPower)
				want(t, "Do", s.Do(store.Tx{}), api.ErrPower)
				want(t, "Sync", s.Sync(), api.ErrPower)
				want(t, "Check", s.Check(), api.ErrPower)
				wantHeld(t, s, now)
				if s.On() || s.Sure() {
					t.Fatalf("On %t, Sure %t", s.On(), s.Sure())
				}
			}
			wantFiles(t, d, files)
		}
		if d.Fails() != fails {
			t.Errorf("Fails %d", d.Fails())
		}
		other := nothing().behind(steps(l)[0])
		if keep >= len(segOf(l, steps(l)[1])) {
			other = now
		}
		s = open(t, l, d, 100, other)
		wantDone(t, s, other, some(l))
	}
}

func TestDoStruck(t *testing.T) { // P18.3 and P18.5: the power fails in Do
	l := groups()
	txs := steps(l)
	whole := len(segOf(l, txs[1]))
	for _, size := range []int{1, 1 << 20} {
		for n := range 3 {
			for _, keep := range append([]int{whole - 1, whole, whole + 1}, keeps...) {
				d := disk.New(probe.Ample)
				s := open(t, l, d, size, nothing())
				now := wantDone(t, s, nothing(), txs[0])
				want(t, "Sync", s.Sync(), api.OK)
				want(t, "Arm", d.Arm(n, keep), api.OK)
				ops := 1 // an append alone
				if size == 1 {
					ops = 3 // a sync and a new segment ahead of it
				}
				if n >= ops {
					wantDone(t, s, now, txs[1])
					continue
				}
				want(t, "Do", s.Do(txs[1]), api.ErrPower)
				wantHeld(t, s, now)
				if !s.Sure() || s.On() { // all that was done is sure
					t.Errorf("Sure %t, On %t", s.Sure(), s.On())
				}
				d.Power()
				if n == ops-1 && keep >= whole { // what was appended is there, whole
					now = now.behind(txs[1])
				}
				open(t, l, d, size, now)
			}
		}
	}
}

func TestSync(t *testing.T) { // P18.3 and P18.4: Sure and On behind each call
	l := groups()
	for _, size := range []int{1, 80, 1 << 20} {
		d := disk.New(probe.Ample)
		s := open(t, l, d, size, nothing())
		now := nothing()
		for _, tx := range steps(l) {
			now = wantDone(t, s, now, tx)
			for range 2 {
				ops := d.Ops()
				want(t, "Sync", s.Sync(), api.OK)
				if !s.Sure() || !s.On() || d.Ops() != ops+1 {
					t.Fatalf("behind Sync: Sure %t, On %t, %d operations", s.Sure(), s.On(), d.Ops()-ops)
				}
			}
			wantHeld(t, s, now)
			wantRefused(t, d, s, store.Tx{}, api.ErrArg)
		}
		d.Fail(0)
		if !s.Sure() || s.On() {
			t.Fatalf("behind a failure: Sure %t, On %t", s.Sure(), s.On())
		}
		d.Power()
		open(t, l, d, size, now)
	}
}

func TestSyncStruck(t *testing.T) { // P18.3 and P18.5
	l := groups()
	txs := steps(l)
	for _, keep := range keeps {
		d := disk.New(probe.Ample)
		s := open(t, l, d, 1<<20, nothing())
		now := wantDone(t, s, nothing(), txs[0])
		want(t, "Arm", d.Arm(0, keep), api.OK)
		want(t, "Sync", s.Sync(), api.ErrPower)
		wantHeld(t, s, now)
		if s.Sure() || s.On() {
			t.Errorf("Sure %t, On %t", s.Sure(), s.On())
		}
		d.Power()
		if keep < len(segOf(l, txs[0])) {
			now = nothing()
		}
		open(t, l, d, 1<<20, now)
	}
}

func TestFileErrors(t *testing.T) { // P18.3: disk's error, that wal hands on
	l := groups()
	d := disk.New(probe.Ample)
	s := open(t, l, d, 1<<20, nothing())
	now := wantDone(t, s, nothing(), some(l))
	want(t, "Drop", d.Drop(wal.Name(1)), api.OK)
	want(t, "Do", s.Do(steps(l)[0]), api.ErrFile)
	want(t, "Sync", s.Sync(), api.ErrFile)
	want(t, "Check", s.Check(), api.ErrFile)
	wantHeld(t, s, now)
	if s.Sure() || !maps.Equal(probe.Files(d), map[string]string{}) {
		t.Errorf("Sure %t, files %q", s.Sure(), probe.Files(d))
	}
}
