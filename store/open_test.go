package store_test

import (
	"maps"
	"math"
	"slices"
	"strings"
	"testing"

	"gemel/api"
	"gemel/disk"
	"gemel/probe"
	"gemel/row"
	"gemel/store"
)

// badSizes are those that wal does not take.
var badSizes = []int{math.MinInt, -1, 0, 1<<20 + 1, math.MaxInt}

// steps tells transactions that put rows and notes, put others in their places, and take them away.
func steps(l []api.Group) []store.Tx {
	return []store.Tx{
		{Rows: []api.Row{rowOf(l, "a", 1), rowOf(l, "c", 2)}, Notes: []api.Note{note("n", "1")}},
		ofRows(rowOf(l, "b", 3)),
		ofNotes(note("m", "x"), note("n", "2")),
		{Rows: []api.Row{rowOf(l, "a", 4), bare(l, "c")}, Notes: []api.Note{note("m", ""), note("o", "y")}},
		ofRows(bare(l, "none")),
		ofNotes(note("n", "")),
		{Rows: []api.Row{bare(l, "a"), bare(l, "b"), rowOf(l, "d", 5)}, Notes: []api.Note{note("z", "end")}},
	}
}

// odd tells what no steps make, so that it is told that it comes out of a checkpoint; of another number it is another.
func odd(l []api.Group, number int) plain {
	return nothing().behind(store.Tx{Rows: []api.Row{rowOf(l, "a", 70+number), rowOf(l, "odd", 80+number)}, Notes: []api.Note{note("n", strings.Repeat("x", 1+number)), note("odd", "y")}})
}

// wantShut wants that a store is not opened, with this error, and tells what files are left.
func wantShut(t *testing.T, l []api.Group, d *disk.Disk, size int, e api.Errno, files map[string]string) {
	t.Helper()
	if s, got := store.Open(l, d, size); s != nil || got != e {
		t.Fatalf("Open: %t, %d, want %d", s != nil, int(got), int(e))
	}
	wantFiles(t, d, files)
}

func TestOpenErrorsInOrder(t *testing.T) { // P18.2: policy's, then wal's
	var none *disk.Disk
	var zero disk.Disk
	full := map[string]string{segName(1): segOf(groups(), steps(groups())...), checkName(9): "wrong", checkName(3): "wrong"}
	torn := map[string]string{segName(1): "x", segName(2): "", checkName(1): "wrong"} // ErrLog
	for _, size := range append([]int{1, 20, 1 << 20}, badSizes...) {
		for _, x := range probe.NoSchemas() {
			for _, d := range []*disk.Disk{none, &zero, disk.New(-1), disk.New(100), laid(t, full), laid(t, torn)} {
				for range 2 {
					wantShut(t, x.Groups, d, size, x.Err, probe.Files(d))
					d.Fail(0)
				}
			}
		}
		for _, l := range probe.Schemas() {
			for _, d := range []*disk.Disk{none, &zero, disk.New(-1)} {
				wantShut(t, l, d, size, api.ErrNil, nil)
			}
			for _, files := range []map[string]string{{}, full, torn} {
				d := laid(t, files)
				d.Fail(0)
				if s, e := store.Open(l, d, size); s != nil || e != api.ErrPower {
					t.Fatalf("Open without power: %t, %d", s != nil, int(e))
				}
				d.Power()
				wantFiles(t, d, files)
				if slices.Contains(badSizes, size) {
					wantShut(t, l, d, size, api.ErrArg, files)
				}
			}
			if !slices.Contains(badSizes, size) {
				wantShut(t, l, laid(t, torn), size, api.ErrLog, torn) // no checkpoint went
			}
		}
	}
}

func TestOpenWithoutRoom(t *testing.T) { // P18.2: disk's error, which wal hands on
	files := map[string]string{}
	for i := range api.MaxFiles {
		files["x"+checkName(i)] = "x"
	}
	wantShut(t, groups(), laid(t, files), 100, api.ErrRoom, files)
}

func TestOpenLog(t *testing.T) { // P18.2: without a checkpoint
	for _, l := range probe.Schemas() {
		txs := steps(l)
		for count := range len(txs) + 1 {
			for cut := range count + 1 {
				files := map[string]string{segName(1): segOf(l, txs[:cut]...)}
				files[segName(cut+1)] = segOf(l, txs[cut:count]...)
				d := laid(t, files)
				s := open(t, l, d, 100, nothing().behind(txs[:count]...))
				wantFiles(t, d, files)
				open(t, l, d, 1, nothing().behind(txs[:count]...)) // P18.6
				wantDone(t, s, nothing().behind(txs[:count]...), ofNotes(note("more", "x")))
			}
		}
	}
}

func TestOpenTorn(t *testing.T) { // P18.2 and P18.5: what was not written to its end is not there
	l := groups()
	txs := steps(l)
	for count := range len(txs) {
		whole, last := segOf(l, txs[:count]...), segOf(l, txs[count])
		for size := range last {
			d := laid(t, map[string]string{segName(1): whole + last[:size]})
			open(t, l, d, 100, nothing().behind(txs[:count]...))
			wantFiles(t, d, map[string]string{segName(1): whole})
		}
	}
}

func TestOpenCheckpoint(t *testing.T) { // P18.2: of each number that the log allows; what is ahead of it in the log is nobody's
	for _, l := range probe.Schemas() {
		txs := steps(l)
		next := len(txs) + 1
		for _, base := range []int{0, 5, 1 << 33, greatest - next} { // how many records went ahead of the log
			for n := range next {
				files := map[string]string{checkName(base + n + 1): checkOf(l, odd(l, n).all())}
				files[segName(base+1)] = framed(slices.Repeat([]string{"nothing that is a transaction"}, n)...) + segOf(l, txs[n:]...)
				d := laid(t, files)
				for range 3 { // P18.6
					open(t, l, d, 100, odd(l, n).behind(txs[n:]...))
					wantFiles(t, d, files)
				}
			}
		}
		empty := map[string]string{checkName(1): checkOf(l, store.Tx{}), segName(1): segOf(l, txs...)}
		d := laid(t, empty)
		open(t, l, d, 100, nothing().behind(txs...))
		wantFiles(t, d, empty)
	}
}

func TestOpenAlone(t *testing.T) { // P18.2: a checkpoint without a log
	l := groups()
	d := laid(t, map[string]string{checkName(1): checkOf(l, odd(l, 0).all())})
	open(t, l, d, 100, odd(l, 0)) // Next is 1
	files := map[string]string{checkName(2): checkOf(l, odd(l, 0).all())}
	d = laid(t, files)
	files[segName(1)] = "" // wal has made it
	wantShut(t, l, d, 100, api.ErrStore, files)
}

func TestOpenOutOfLog(t *testing.T) { // P18.2: First above the number, Next below it
	l := groups()
	txs := steps(l)
	for _, first := range []int{1, 2, 5, 100} {
		next := first + len(txs)
		for n := max(1, first-3); n < next+3; n++ {
			files := map[string]string{segName(first): segOf(l, txs...), checkName(n): checkOf(l, odd(l, 1).all())}
			d := laid(t, files)
			if n < first || n > next {
				wantShut(t, l, d, 100, api.ErrStore, files)
			} else {
				open(t, l, d, 100, odd(l, 1).behind(txs[n-first:]...))
			}
		}
		files := map[string]string{segName(first): segOf(l, txs...)} // without a checkpoint the number is 1
		if first > 1 {
			wantShut(t, l, laid(t, files), 100, api.ErrStore, files)
		} else {
			open(t, l, laid(t, files), 100, nothing().behind(txs...))
		}
	}
	for _, n := range []int{1, 2, 1 << 40, greatest} { // a log without records
		files := map[string]string{segName(7): "", checkName(n): checkOf(l, odd(l, 1).all())}
		wantShut(t, l, laid(t, files), 100, api.ErrStore, files)
	}
	open(t, l, laid(t, map[string]string{segName(7): "", checkName(7): checkOf(l, odd(l, 1).all())}), 100, odd(l, 1))
}

// noRecords tells bytes that are no form of a transaction that Good takes.
func noRecords(l []api.Group) []string {
	a, b := string(row.Put(nil, l, rowOf(l, "a", 1))), string(row.Put(nil, l, rowOf(l, "b", 1)))
	x, y := noteBytes(note("x", "text")), noteBytes(note("y", ""))
	long := strings.Repeat("n", api.MaxFileName+1)
	most := "\xff\xff\xff\xff\xff\xff\xff\xff" // MaxNum
	out := []string{
		"", "\x00", "\x00\x00", "x", "nothing that is a transaction",
		"\x02" + b + a + "\x00", "\x02" + a + a + "\x00", "\x03" + a + b + b + "\x00",
		"\x00\x02" + y + x, "\x00\x02" + x + x, "\x01" + a + "\x02" + y + y,
		"\x01" + a, "\x02" + a + "\x00", "\x01" + a + b + "\x00", "\x00" + a + "\x00", a,
		"\x00\x01", "\x00\x02" + x, "\x00\x01" + x + y, "\x01" + x, "\x00\x01" + a, x,
		"\x40\x01" + a + "\x00", "\x01" + a + "\x40\x00", "\x00\x40\x01" + x, // numbers of more bytes than they need
		"\x00\x01" + noteBytes(note("", "x")), "\x00\x01" + noteBytes(note(long, "x")),
		"\x00\x01" + noteBytes(note("x", strings.Repeat("x", api.MaxNote+1))),
		"\x01" + string(row.Put(nil, probe.Schemas()[5], rowOf(probe.Schemas()[5], "a", 1))) + "\x00",
		most + a + "\x00", most, "\x00" + most + x, "\x01" + a + most,
	}
	form := formOf(l, some(l))
	for size := range form {
		out = append(out, form[:size])
	}
	return append(out, form+"\x00", form+form, "\x00"+form)
}

func TestOpenRecords(t *testing.T) { // P18.2: records that are no transactions, of a number from n on
	l := groups()
	txs := steps(l)
	for i, rec := range noRecords(l) {
		at := i % (len(txs) + 1)
		for n := 1; n <= len(txs)+2; n++ {
			files := map[string]string{segName(1): segOf(l, txs[:at]...) + framed(rec) + segOf(l, txs[at:]...), checkName(n): checkOf(l, odd(l, n).all())}
			d := laid(t, files)
			if n <= at+1 {
				wantShut(t, l, d, 100, api.ErrStore, files)
			} else {
				open(t, l, d, 100, odd(l, n).behind(txs[n-2:]...))
			}
		}
		files := map[string]string{segName(1): framed(rec)}
		wantShut(t, l, laid(t, files), 100, api.ErrStore, files)
	}
}

// wrongChecks tells bytes that are no right checkpoint.
func wrongChecks(l []api.Group) []string {
	t := some(l)
	t.Rows[1], t.Notes[1] = rowOf(l, "d", 7), note("d", "z")
	right := checkOf(l, t)
	rows, notes := make([]string, 3), make([]string, 3)
	for i := range 3 {
		rows[i], notes[i] = string(row.Put(nil, l, t.Rows[i])), noteBytes(t.Notes[i])
	}
	out := []string{"", "x", right + "\x00", right + "\xb5", right + framed(""), right + framed(notes[2]), right + right, framed("\x00\x00") + right, "\x00" + right, framed("\x00\x00" + "\x00"), framed("\x00"), framed(""), framed("\x40\x00\x00"), formOf(l, t), framed(formOf(l, t)), framed("\xff\xff\xff\xff\xff\xff\xff\xff\xff\xff\xff\xff\xff\xff\xff\xff"), framed("\xff\xff\xff\xff\xff\xff\xff\xff\xff\xff\xff\xff\xff\xff\xff\xff", rows[0])}
	for size := range right {
		turned := []byte(right)
		turned[size] ^= 1 << (size % 8)
		out = append(out, right[:size], string(turned))
	}
	all := slices.Concat(rows, notes)
	for i := range 9 { // wrong counts, of as many together too
		for k := range 9 {
			if i != 3 || k != 3 {
				out = append(out, framed(append([]string{string([]byte{byte(i), byte(k)})}, all...)...))
			}
		}
	}
	with := func(counts string, bodies ...string) {
		out = append(out, framed(append([]string{counts}, bodies...)...))
	}
	with("\x03\x03\x00", all...)
	with("\x40\x03\x03", all...)
	for i := range 2 {
		with("\x02\x00", rows[i+1], rows[i])
		with("\x02\x00", rows[i], rows[i])
		with("\x00\x02", notes[i+1], notes[i])
		with("\x00\x02", notes[i], notes[i])
	}
	with("\x01\x01", notes[0], rows[0])
	with("\x01\x00", string(row.Put(nil, l, bare(l, "k"))))
	with("\x02\x00", rows[0], string(row.Put(nil, l, bare(l, "k"))))
	with("\x00\x01", noteBytes(note("k", "")))
	with("\x01\x02", rows[0], notes[0], noteBytes(note("k", "")))
	with("\x00\x01", noteBytes(note("", "x")))
	with("\x00\x01", noteBytes(note(strings.Repeat("n", api.MaxFileName+1), "x")))
	with("\x00\x01", noteBytes(note("n", strings.Repeat("x", api.MaxNote+1))))
	with("\x01\x00", rows[0]+"\x00")
	with("\x01\x00", rows[0]+rows[1])
	with("\x02\x00", rows[0]+rows[1])
	with("\x02\x00", rows[0], rows[1][:5], rows[1][5:])
	with("\x00\x01", notes[0]+"\x00")
	with("\x00\x01", notes[0]+notes[1])
	with("\x00\x02", notes[0]+notes[1])
	with("\x01\x00", string(row.Put(nil, probe.Schemas()[5], rowOf(probe.Schemas()[5], "k", 1))))
	return append(out, checkOf(l, manyRows(0, api.MaxRows+1, false)), checkOf(l, manyNotes(0, api.MaxNotes+1, "x")), checkOf(l, manyNotes(0, 2*api.MaxNotes, "x")))
}

func TestOpenWrong(t *testing.T) { // P18.2: a checkpoint that is not right goes, and the next one is taken
	l := groups()
	txs := steps(l)
	for _, b := range wrongChecks(l) {
		kept := map[string]string{segName(1): segOf(l, txs...)}
		files := maps.Clone(kept)
		files[checkName(4)] = b
		d := laid(t, files)
		open(t, l, d, 100, nothing().behind(txs...))
		wantFiles(t, d, kept)
		kept[checkName(3)] = checkOf(l, odd(l, 1).all())
		maps.Copy(files, kept)
		files[checkName(1<<34)] = b // one whose number is above Next
		d = laid(t, files)
		open(t, l, d, 100, odd(l, 1).behind(txs[2:]...))
		wantFiles(t, d, kept)
		files = map[string]string{segName(4): segOf(l, txs...), checkName(4): b}
		wantShut(t, l, laid(t, files), 100, api.ErrStore, map[string]string{segName(4): segOf(l, txs...)}) // the drop comes ahead of that error
	}
}

func TestOpenMost(t *testing.T) { // P18.2: right checkpoints of MaxRows rows, and MaxNotes notes
	l := groups()
	most := manyRows(0, api.MaxRows, false)
	most.Notes = manyNotes(0, api.MaxNotes, "x").Notes
	for _, tx := range []store.Tx{most, ofRows(most.Rows...), ofNotes(most.Notes...), ofNotes(note("n", strings.Repeat("x", api.MaxNote)), note(strings.Repeat("n", api.MaxFileName), "x"))} {
		files := map[string]string{segName(8): "", checkName(8): checkOf(l, tx)}
		d := laid(t, files)
		open(t, l, d, 100, nothing().behind(tx))
		wantFiles(t, d, files)
	}
}

func TestOpenManyCheckpoints(t *testing.T) { // P18.2: the right one of the greatest number is taken, all others go
	l := groups()
	txs := steps(l)
	for mask := range 1 << 5 { // which of them are right
		for _, first := range []int{1, 9} {
			files := map[string]string{segName(first): segOf(l, txs...)}
			kept := maps.Clone(files)
			taken := 0
			for i := range 5 {
				name := checkName(first + i)
				files[name] = "wrong"
				if mask>>i&1 == 1 {
					files[name] = checkOf(l, odd(l, i).all())
					taken = first + i
				}
			}
			d := laid(t, files)
			switch {
			case taken > 0:
				kept[checkName(taken)] = files[checkName(taken)]
				open(t, l, d, 100, odd(l, taken-first).behind(txs[taken-first:]...))
			case first > 1:
				wantShut(t, l, d, 100, api.ErrStore, kept)
			default:
				open(t, l, d, 100, nothing().behind(txs...))
			}
			wantFiles(t, d, kept)
		}
	}
	for _, low := range []int{9, 99, 999999, 1 << 32} { // by numbers, from one count of digits to the next
		files := map[string]string{segName(low): segOf(l, txs...), checkName(low): checkOf(l, odd(l, 1).all()), checkName(low + 1): checkOf(l, odd(l, 2).all()), checkName(1): checkOf(l, odd(l, 3).all())}
		d := laid(t, files)
		open(t, l, d, 100, odd(l, 2).behind(txs[1:]...))
		delete(files, checkName(low))
		delete(files, checkName(1))
		wantFiles(t, d, files)
	}
}

// others are files that are neither checkpoints nor segments, though their names look so.
func others(l []api.Group) map[string]string {
	right := checkOf(l, odd(l, 9).all())
	return map[string]string{"a": "", "c": right, "c1": right, "c000000000000": right, "c00000000001": "wrong", "c0000000000001": right, "c00000000000x": "wrong", "cc00000000001": right, "d000000000001": "wrong", "b000000000001": right, "000000000001": right, "xc000000000002": "wrong", "c000000000002x": right, "w": "x", "w000000000000": "x", "zz": "last"}
}

func TestOthersStay(t *testing.T) { // P18.2 and P18.3
	l := groups()
	txs := steps(l)
	files := others(l)
	files[segName(1)] = segOf(l, txs[:2]...)
	d := laid(t, files)
	s := open(t, l, d, 100, nothing().behind(txs[:2]...))
	wantFiles(t, d, files)
	now := nothing().behind(txs[:2]...)
	for _, tx := range txs[2:] {
		now = wantDone(t, s, now, tx)
	}
	want(t, "Check", s.Check(), api.OK)
	s = open(t, l, d, 100, now)
	for name, b := range others(l) {
		if got, e := d.Read(name); string(got) != b || e != api.OK {
			t.Errorf("%s has become %.100q, %d", name, got, int(e))
		}
	}
	wantHeld(t, s, now)
}

// keeps are those of failures.
var keeps = []int{-1, 0, 1, 7, 30, 100, 1 << 30}

func TestOpenStruck(t *testing.T) { // P18.2, P18.5 and P18.6: the power fails in Open
	l := groups()
	txs := steps(l)
	segment := segOf(l, txs...)
	files := map[string]string{segName(1): segment + "\xb5torn"}
	order := []int{7, 5, 4, 2, 1} // the checkpoints that go, as they are come to
	for _, n := range order {
		files[checkName(n)] = "wrong"
		if n < 3 {
			files[checkName(n)] = checkOf(l, odd(l, n).all())
		}
	}
	files[checkName(3)] = checkOf(l, odd(l, 3).all())
	held := odd(l, 3).behind(txs[2:]...)
	const wals = 2 // wal's own operations, a cut and a sync
	for n := range len(order) + wals {
		for _, keep := range keeps {
			d := laid(t, files)
			want(t, "Arm", d.Arm(n, keep), api.OK)
			if s, e := store.Open(l, d, 100); s != nil || e != api.ErrPower || d.On() {
				t.Fatalf("Open: %t, %d", s != nil, int(e))
			}
			left := maps.Clone(files)
			if n > 0 {
				left[segName(1)] = segment
			}
			for i := range n - wals {
				delete(left, checkName(order[i]))
			}
			d.Power()
			wantFiles(t, d, left)
			for range 2 {
				open(t, l, d, 100, held)
				wantFiles(t, d, map[string]string{segName(1): segment, checkName(3): files[checkName(3)]})
			}
		}
	}
	d := laid(t, files)
	before := d.Ops()
	open(t, l, d, 100, held)
	if got := d.Ops() - before; got != len(order)+wals {
		t.Errorf("%d operations", got)
	}
}

func TestOpenAboveMost(t *testing.T) { // P18.2 and P18.3: a log that somebody laid may make more than Do would
	l := groups()
	for _, x := range []struct{ much, gone store.Tx }{
		{manyRows(0, api.MaxRows+2, false), manyRows(0, 2, true)},
		{manyNotes(0, api.MaxNotes+2, "x"), manyNotes(0, 2, "")},
	} {
		d := laid(t, map[string]string{segName(1): segOf(l, x.much)})
		now := nothing().behind(x.much)
		s := open(t, l, d, 100, now)
		wantRefused(t, d, s, ofRows(rowOf(l, "row00000", 1)), api.ErrRoom)
		wantRefused(t, d, s, ofNotes(note("note00000", "y")), api.ErrRoom)
		files := probe.Files(d)
		want(t, "Check", s.Check(), api.ErrRoom) // it would not be right, and its log would be gone
		wantFiles(t, d, files)
		now = wantDone(t, s, now, x.gone)
		want(t, "Check", s.Check(), api.OK)
		open(t, l, d, 100, now)
	}
}
