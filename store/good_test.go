package store_test

import (
	"errors"
	"strings"
	"testing"

	"gemel/api"
	"gemel/probe"
	"gemel/store"
)

// nowhere says that a fault is of no row and no note.
const nowhere = -1

// numbers are those of all errors, and that of none.
var numbers = []api.Errno{api.OK, api.ErrNil, api.ErrArg, api.ErrLong, api.ErrCut, api.ErrForm, api.ErrMark, api.ErrSum, api.ErrHex, api.ErrClock, api.ErrGroup, api.ErrCell, api.ErrRow, api.ErrChange, api.ErrWire, api.ErrPower, api.ErrRoom, api.ErrFile, api.ErrThere, api.ErrLog, api.ErrStore, api.ErrOrigin, api.ErrQueue, api.ErrPacket, api.ErrGap, api.ErrTree, api.ErrDown, api.ErrSite, api.ErrLine}

// wantFault wants that a transaction may not be, for this number alone, and in this place.
func wantFault(t *testing.T, l []api.Group, tx store.Tx, e api.Errno, at int) {
	t.Helper()
	err := store.Good(l, tx)
	for _, n := range numbers {
		if errors.Is(err, n) != (n == e) {
			t.Errorf("the error of %s is %d: %t, want %d", short(tx), int(n), errors.Is(err, n), int(e))
		}
	}
	var f api.Fault
	if errors.As(err, &f) != (at != nowhere) || at != nowhere && (f.At != at || f.Err != e) {
		t.Errorf("the fault of %s is %d at %d, want %d at %d", short(tx), int(f.Err), f.At, int(e), at)
	}
}

func wantGood(t *testing.T, l []api.Group, tx store.Tx) {
	t.Helper()
	if err := store.Good(l, tx); err != nil {
		t.Errorf("Good of %s: %v", short(tx), err)
	}
}

// some tells a transaction of three rows and three notes, among them a bare one and one without text.
func some(l []api.Group) store.Tx {
	return store.Tx{
		Rows:  []api.Row{rowOf(l, "b", 1), bare(l, "d"), rowOf(l, "f", 2)},
		Notes: []api.Note{note("b", "x"), note("d", ""), note("f", "y")},
	}
}

func TestGood(t *testing.T) { // P18.1
	for _, l := range probe.Schemas() {
		wantGood(t, l, some(l))
		wantGood(t, l, ofRows(some(l).Rows...))
		wantGood(t, l, ofNotes(some(l).Notes...))
		wantGood(t, l, ofRows(bare(l, "k")))
		wantGood(t, l, ofRows(rowOf(l, strings.Repeat("k", api.MaxKey), 5)))
		wantGood(t, l, ofNotes(note("k", "")))
		wantGood(t, l, ofNotes(note("\x00", strings.Repeat("\xff", api.MaxNote-1)), note(strings.Repeat("n", api.MaxFileName), strings.Repeat("x", api.MaxNote))))
		var all store.Tx
		for i, text := range texts() {
			all.Rows = append(all.Rows, rowOf(l, text, i))
			all.Notes = append(all.Notes, note(text, text))
		}
		wantGood(t, l, all)
	}
	wantGood(t, groups(), manyRows(0, 2*api.MaxRows, false)) // the store says how many there may be
	wantGood(t, groups(), manyNotes(0, 2*api.MaxNotes, "x"))
}

func TestGoodSchemas(t *testing.T) { // P18.1: ahead of all else
	for _, x := range probe.NoSchemas() {
		for _, tx := range []store.Tx{{}, some(groups()), ofRows(api.Row{}), ofNotes(note("", "")), ofNotes(note("b", "x"), note("a", strings.Repeat("x", api.MaxNote+1)))} {
			wantFault(t, x.Groups, tx, x.Err, nowhere)
		}
	}
}

func TestGoodEmpty(t *testing.T) { // P18.1
	for _, l := range probe.Schemas() {
		wantFault(t, l, store.Tx{}, api.ErrArg, nowhere)
		wantFault(t, l, store.Tx{Rows: []api.Row{}, Notes: []api.Note{}}, api.ErrArg, nowhere)
	}
}

func TestGoodRows(t *testing.T) { // P18.1: row's errors, wherever the row stands
	for _, l := range probe.Schemas() {
		for _, x := range probe.NoRows(l) {
			for at := range 3 {
				tx := some(l)
				tx.Rows[at] = x.Row
				if at == 1 && x.Row.Key != "" { // the key rises, so that this is its only fault
					tx.Rows[at].Key = "c" + x.Row.Key
				}
				wantFault(t, l, tx, x.Err, at)
				tx.Notes[0].Name = "" // another fault, behind it
				wantFault(t, l, tx, x.Err, at)
			}
			wantFault(t, l, ofRows(x.Row), x.Err, 0)
			wantFault(t, l, ofRows(rowOf(l, "z", 1), x.Row, x.Row), x.Err, 1)
		}
	}
}

func TestGoodKeys(t *testing.T) { // P18.1: keys that rise
	for _, l := range probe.Schemas() {
		all := texts()
		for i, a := range all {
			for k, b := range all {
				tx := ofRows(rowOf(l, a, 1), bare(l, b))
				if i < k {
					wantGood(t, l, tx)
				} else {
					wantFault(t, l, tx, api.ErrArg, 1)
				}
			}
		}
		tx := some(l)
		tx.Rows[2].Key = "a"
		wantFault(t, l, tx, api.ErrArg, 2)
		tx.Rows[1].Key = "b"
		wantFault(t, l, tx, api.ErrArg, 1)
		tx.Rows[1].Key, tx.Rows[2].Key = "d", "c" // above the first one, but not above the one ahead
		wantFault(t, l, tx, api.ErrArg, 2)
	}
}

func TestGoodNames(t *testing.T) { // P18.1: names that rise, of 1 to MaxFileName bytes
	l := groups()
	all := texts()
	for i, a := range all {
		for k, b := range all {
			tx := ofNotes(note(a, "x"), note(b, ""))
			if i < k {
				wantGood(t, l, tx)
			} else {
				wantFault(t, l, tx, api.ErrArg, 1)
			}
		}
	}
	for _, name := range []string{"", strings.Repeat("n", api.MaxFileName+1), strings.Repeat("\xff", api.MaxFileName+1), strings.Repeat("n", 5000)} {
		for at := range 3 {
			tx := some(l)
			tx.Notes[at].Name = name
			if name != "" && at == 1 {
				tx.Notes[at].Name = "c" + name[1:]
			}
			wantFault(t, l, tx, api.ErrArg, 3+at)
			wantFault(t, l, ofNotes(tx.Notes...), api.ErrArg, at)
			tx.Notes[at].Text = strings.Repeat("x", api.MaxNote+1) // told behind the name's
			wantFault(t, l, tx, api.ErrArg, 3+at)
		}
	}
	tx := some(l)
	tx.Notes[1].Name, tx.Notes[2].Name = "d", "c"
	wantFault(t, l, tx, api.ErrArg, 5)
	wantFault(t, l, ofNotes(note("n", "x"), note("n", "x")), api.ErrArg, 1)
	wantFault(t, l, ofNotes(note("n", "x"), note("n", "")), api.ErrArg, 1)
}

func TestGoodTexts(t *testing.T) { // P18.1
	l := groups()
	for _, size := range []int{api.MaxNote + 1, api.MaxNote + 2, 2 * api.MaxNote, 1 << 20} {
		for at := range 3 {
			tx := some(l)
			tx.Notes[at].Text = strings.Repeat("x", size)
			wantFault(t, l, tx, api.ErrLong, 3+at)
			wantFault(t, l, ofNotes(tx.Notes...), api.ErrLong, at)
			if at < 2 {
				tx.Notes[2].Name = "" // another fault, behind it
				wantFault(t, l, tx, api.ErrLong, 3+at)
			}
		}
	}
}

func TestGoodFirst(t *testing.T) { // P18.1: where two apply the first one, the rows ahead of the notes
	l := groups()
	tx := some(l)
	tx.Rows[2].Cells = nil
	tx.Notes[0].Name = ""
	wantFault(t, l, tx, api.ErrRow, 2)
	tx.Rows[1].Key = "a"
	wantFault(t, l, tx, api.ErrArg, 1)
	tx.Rows[1].Cells = nil // row's own error ahead of that of its place
	wantFault(t, l, tx, api.ErrRow, 1)
	tx.Rows[0].Key = strings.Repeat("k", api.MaxKey+1)
	wantFault(t, l, tx, api.ErrLong, 0)
	tx = some(l)
	tx.Notes[0].Text = strings.Repeat("x", api.MaxNote+1)
	tx.Notes[1].Name = "a"
	wantFault(t, l, tx, api.ErrLong, 3)
	tx.Notes[0].Text = "x"
	tx.Notes[2].Text = strings.Repeat("x", api.MaxNote+1)
	wantFault(t, l, tx, api.ErrArg, 4)
}
