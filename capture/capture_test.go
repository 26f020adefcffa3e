package capture_test

import (
	"fmt"
	"math"
	"regexp"
	"slices"
	"strconv"
	"strings"
	"testing"

	"gemel/api"
	"gemel/capture"
	"gemel/change"
	"gemel/probe"
)

// numbers are those around the edges, and ones far from all.
var numbers = []int{math.MinInt, -api.MaxSeq, -1 << 32, -7, -1, 0, 1, 2, 7, 9, 10, 11, 99, 100, 1<<32 - 1, 1 << 32, 999_999_999_999, 1_000_000_000_000, api.MaxSeq - 1, api.MaxSeq, api.MaxSeq + 1, 9_999_999_999_999, 10_000_000_000_000, 10_000_000_000_001, 20_000_000_000_007, 1 << 62, math.MaxInt - 1, math.MaxInt}

// groups tells the schema of the chapters, a=last,b=delete.
func groups() []api.Group { return probe.Schemas()[2] }

// same tells whether two changes are.
func same(a, b api.Change) bool {
	return a.Site == b.Site && a.Seq == b.Seq && a.Stamp == b.Stamp && a.Vec == b.Vec && slices.Equal(a.Writes, b.Writes)
}

// following tells so many changes of a site that follow one another, from a Seq on.
func following(l []api.Group, site, first, count int) []api.Change {
	var out []api.Change
	for i, c := range slices.Repeat(probe.Changes(l), 1+count/8)[:count] {
		seq := first + i
		next := api.Change{Site: site, Seq: seq, Stamp: api.Stamp{N: seq + i, Site: site}, Writes: slices.Clone(c.Writes)}
		next.Vec[site-1] = seq
		next.Vec[2-site] = i / 2
		out = append(out, next)
	}
	return out
}

// noteOf tells what a change's note is to be.
func noteOf(l []api.Group, c api.Change) api.Note {
	return api.Note{Name: fmt.Sprintf("o%013d", c.Seq), Text: string(change.Put(nil, l, c))}
}

// notesOf tells what changes' notes are to be.
func notesOf(l []api.Group, cs []api.Change) []api.Note {
	var out []api.Note
	for _, c := range cs {
		out = append(out, noteOf(l, c))
	}
	return out
}

func TestName(t *testing.T) { // P19.1
	for _, seq := range numbers {
		want := ""
		if seq >= 1 && seq <= api.MaxSeq {
			want = fmt.Sprintf("o%013d", seq)
		}
		if name := capture.Name(seq); name != want {
			t.Errorf("Name(%d) = %q, want %q", seq, name, want)
		}
	}
	for seq, want := range map[int]string{7: "o0000000000007", 1: "o0000000000001", api.MaxSeq: "o1099511627776", 123456789: "o0000123456789"} {
		if name := capture.Name(seq); name != want {
			t.Errorf("Name(%d) = %q, want %q", seq, name, want)
		}
	}
}

func TestExample(t *testing.T) { // the chapter's
	if name := capture.Name(7); name != "o0000000000007" || capture.Number(name) != 7 {
		t.Errorf("%q, %d", name, capture.Number(name))
	}
}

// numberOf tells in another way than the program does which number's name this is.
func numberOf(name string) int {
	if !regexp.MustCompile(`\Ao[0-9]{13}\z`).MatchString(name) {
		return 0
	}
	n, _ := strconv.ParseInt(name[1:], 10, 64)
	if n > api.MaxSeq {
		return 0
	}
	return int(n)
}

func wantNumber(t *testing.T, name string, want int) {
	t.Helper()
	if n := capture.Number(name); n != want {
		t.Errorf("Number(%.40q) = %d, want %d", name, n, want)
	}
}

func TestNumber(t *testing.T) { // P19.1
	for _, seq := range numbers {
		want := 0
		if seq >= 1 && seq <= api.MaxSeq {
			want = seq
		}
		wantNumber(t, fmt.Sprintf("o%013d", seq), want)
		wantNumber(t, capture.Name(seq), want)
	}
}

func TestNumberOfNone(t *testing.T) { // P19.1
	for _, name := range []string{
		"", "o", "7", "0000000000007", "00000000000007", "000000000000007",
		"o000000000007", "o00000000000007", "o7", "o1", "o109951162777", "o10995116277760", // of twelve and fourteen digits, and fewer
		"p0000000000007", "O0000000000007", "c0000000000007", "w0000000000007", "\xef0000000000007", "oo000000000007", "oo0000000000007", " o0000000000007",
		"o+000000000007", "o-000000000007", "o+0000000000007", "o-0000000000007", "+o0000000000007",
		"o 000000000007", "o00000 0000007", "o0000000000007 ", "o 0000000000007", "o\t000000000007", "o0000000000007\n", "o000000000007\x00",
		"o00000x0000007", "o0x00000000007", "o0o00000000007", "o000000000000x", "o000000000007x", "o0000_00000007", "o000000000_007", "o0000000.00007", "o000000000e007", "oinfinity00000",
		"0000000000007o", "o000000000０7", "o٠٠٠٠٠٠7",
		"o0000000000000", "o1099511627777", "o1099511627786", "o2000000000000", "o9999999999999", // of 0, and above MaxSeq
		"o" + strings.Repeat("0", 30) + "7", "o" + strings.Repeat("9", 30), "o" + strings.Repeat("0", 1<<20) + "7", strings.Repeat("o", 1<<20),
	} {
		if numberOf(name) != 0 {
			t.Fatalf("%q is a name", name)
		}
		wantNumber(t, name, 0)
	}
}

func TestNumberOfTurned(t *testing.T) { // P19.1: each byte of a name, turned into each other one
	for _, seq := range []int{1, 7, 123456789012, 999999999999, api.MaxSeq} {
		name := fmt.Sprintf("o%013d", seq)
		for at := range len(name) {
			for with := range 256 {
				turned := []byte(name)
				turned[at] = byte(with)
				wantNumber(t, string(turned), numberOf(string(turned)))
			}
			wantNumber(t, name[:at], 0)
			wantNumber(t, name[:at]+name[at+1:], 0)
			wantNumber(t, name[:at]+"0"+name[at:], 0)
		}
	}
}

func TestNote(t *testing.T) { // P19.1
	for _, l := range probe.Schemas() {
		for _, c := range slices.Concat(probe.Changes(l), following(l, 1, 1<<30, 4), following(l, 2, api.MaxSeq-3, 4)) {
			if n, e := capture.Note(l, c); n != noteOf(l, c) || e != api.OK {
				t.Errorf("Note(%v) = %q, %d, want %q", c, n, int(e), noteOf(l, c))
			}
		}
	}
	c := api.Change{Site: 1, Seq: 1, Stamp: api.Stamp{N: 1, Site: 1}, Vec: api.Vec{1, 0}, Writes: []api.Write{{Key: "k", Value: "x"}}}
	if n, e := capture.Note(groups(), c); n != (api.Note{Name: "o0000000000001", Text: "\x01\x01\x02\x01\x00\x01\x01k\x00\x00\x01x"}) || e != api.OK { // chapter 12's example
		t.Errorf("Note(%v) = %q, %d", c, n, int(e))
	}
}

func TestNoteOfMost(t *testing.T) { // P19.1: the longest text that a change has is one that a note may have
	c := api.Change{Site: 2, Seq: api.MaxSeq, Stamp: api.Stamp{N: api.MaxCount, Site: 2}, Vec: api.Vec{api.MaxSeq, api.MaxSeq}}
	for i := range api.MaxWrites {
		key := strings.Repeat(string(rune('a'+i)), api.MaxKey)
		c.Writes = append(c.Writes, api.Write{Key: key, Group: 1, Value: strings.Repeat("v", api.MaxValue)})
	}
	n, e := capture.Note(groups(), c)
	if n != noteOf(groups(), c) || e != api.OK || len(n.Name) > api.MaxFileName || len(n.Text) > api.MaxNote {
		t.Errorf("a note with a text of %d bytes, %d", len(n.Text), int(e))
	}
}

func TestNoteErrors(t *testing.T) { // P19.1
	wantNone := func(l []api.Group, c api.Change, want api.Errno) {
		t.Helper()
		if n, e := capture.Note(l, c); n != (api.Note{}) || e != want {
			t.Errorf("Note(%v) by %v = %q, %d, want %d", c, l, n, int(e), int(want))
		}
	}
	for _, l := range probe.Schemas() {
		for _, c := range probe.NoChanges(l) {
			wantNone(l, c, api.ErrChange)
		}
		for _, x := range probe.NoSchemas() { // ahead of what the change is
			for _, c := range slices.Concat(probe.Changes(l), probe.NoChanges(l)) {
				wantNone(x.Groups, c, x.Err)
			}
		}
	}
}

// wantRead wants just these changes.
func wantRead(t *testing.T, l []api.Group, site int, notes []api.Note, want ...api.Change) {
	t.Helper()
	if cs, e := capture.Read(l, site, notes); !slices.EqualFunc(cs, want, same) || e != api.OK {
		t.Fatalf("Read(%d, %q) = %v, %d, want %v", site, notes, cs, int(e), want)
	}
}

// wantUnread wants an error.
func wantUnread(t *testing.T, l []api.Group, site int, want api.Errno, notes ...api.Note) {
	t.Helper()
	if cs, e := capture.Read(l, site, notes); len(cs) != 0 || e != want {
		t.Fatalf("Read(%d, %q) by %v = %v, %d, want %d", site, notes, l, cs, int(e), int(want))
	}
}

func TestRead(t *testing.T) { // P19.2 and P19.4: from 1 on, and from higher numbers on
	for _, l := range probe.Schemas() {
		for _, site := range []int{1, 2} {
			for _, first := range []int{1, 2, 9, 1 << 14, 1 << 30, api.MaxSeq - 19} {
				cs := following(l, site, first, 20)
				for _, count := range []int{0, 1, 2, 19, 20} {
					wantRead(t, l, site, notesOf(l, cs[:count]), cs[:count]...)
					wantRead(t, l, site, notesOf(l, cs[20-count:]), cs[20-count:]...)
				}
			}
		}
	}
}

func TestReadOfMany(t *testing.T) { // P19.2: as many as a store has notes
	cs := following(groups(), 2, 1, api.MaxNotes)
	wantRead(t, groups(), 2, notesOf(groups(), cs), cs...)
}

func TestReadOfNone(t *testing.T) { // P19.2: whatever the site is, there is no note that is not its
	for _, site := range []int{math.MinInt, -1, 0, 1, 2, 3, math.MaxInt} {
		wantRead(t, groups(), site, nil)
		wantRead(t, groups(), site, []api.Note{})
	}
}

func TestReadBySchema(t *testing.T) { // P19.2: its error goes ahead of all notes'
	notes := notesOf(groups(), following(groups(), 1, 1, 3))
	for _, x := range probe.NoSchemas() {
		for _, site := range []int{0, 1, 2} {
			wantUnread(t, x.Groups, site, x.Err)
			wantUnread(t, x.Groups, site, x.Err, notes...)
			wantUnread(t, x.Groups, site, x.Err, notes[2], notes[0])
			wantUnread(t, x.Groups, site, x.Err, api.Note{})
		}
	}
	c := api.Change{Site: 1, Seq: 1, Stamp: api.Stamp{N: 1, Site: 1}, Vec: api.Vec{1, 0}, Writes: []api.Write{{Key: "k", Group: 1, Value: "x"}}}
	wantRead(t, groups(), 1, []api.Note{noteOf(groups(), c)}, c)
	wantUnread(t, groups()[:1], 1, api.ErrChange, noteOf(groups(), c)) // of a group that this schema has not
}

func TestReadOfOrder(t *testing.T) { // P19.2: a gap, a number twice, numbers that are exchanged
	l := groups()
	for _, first := range []int{1, 5, api.MaxSeq - 4} {
		n := notesOf(l, following(l, 2, first, 5))
		for _, at := range [][]int{
			{0, 2}, {0, 1, 3}, {0, 2, 3}, {0, 1, 2, 4}, {0, 4}, {1, 3, 4},
			{0, 0}, {0, 1, 1}, {1, 1, 2}, {0, 1, 2, 3, 4, 4},
			{1, 0}, {0, 2, 1}, {1, 0, 2}, {0, 1, 3, 2, 4}, {4, 3, 2, 1, 0}, {3, 4, 0},
		} {
			var notes []api.Note
			for _, i := range at {
				notes = append(notes, n[i])
			}
			wantUnread(t, l, 2, api.ErrChange, notes...)
		}
	}
}

func TestReadOfSite(t *testing.T) { // P19.2: notes of the other site's changes, alone and among others
	l := groups()
	for _, site := range []int{1, 2} {
		own, other := notesOf(l, following(l, site, 3, 3)), notesOf(l, following(l, 3-site, 3, 3))
		for _, notes := range [][]api.Note{other, other[:1], {other[0], own[1], own[2]}, {own[0], other[1], own[2]}, {own[0], own[1], other[2]}} {
			wantUnread(t, l, site, api.ErrChange, notes...)
		}
		for _, none := range []int{math.MinInt, -1, 0, 3, 3 - site, 1<<32 + site, math.MaxInt} {
			wantUnread(t, l, none, api.ErrChange, own...)
			wantUnread(t, l, none, api.ErrChange, api.Note{}) // nor is that one of a site 0
		}
	}
}

// spoiled tells notes that are none of a change, made of one that is.
func spoiled(l []api.Group, c api.Change) []api.Note {
	n := noteOf(l, c)
	other, text := noteOf(l, following(l, c.Site, c.Seq+1, 1)[0]), []byte(n.Text)
	out := []api.Note{
		{}, {Name: n.Name}, {Text: n.Text},
		{Name: other.Name, Text: n.Text}, {Name: n.Name, Text: other.Text},
		{Name: n.Name, Text: n.Text + n.Text}, {Name: n.Name, Text: n.Text + other.Text},
		{Name: n.Name, Text: "\x00" + n.Text}, {Name: n.Name, Text: n.Text[1:]},
	}
	for _, name := range []string{"o", "know", "p" + n.Name[1:], n.Name[1:], n.Name + "0", "o0" + n.Name[1:], "o" + n.Name[2:], "o+" + n.Name[2:], " " + n.Name, n.Name + " ", strings.ToUpper(n.Name), "o0000000000000"} {
		out = append(out, api.Note{Name: name, Text: n.Text})
	}
	for _, more := range []string{"\x00", "\x01", "x", "\xff"} {
		out = append(out, api.Note{Name: n.Name, Text: n.Text + more})
	}
	for size := range len(n.Text) {
		out = append(out, api.Note{Name: n.Name, Text: n.Text[:size]})
	}
	for at := range 2 { // its Site, and its Seq
		for _, with := range []byte{0, 1, 2, 3, 7, 0x40, 0xc0, 0xff} {
			if turned := slices.Clone(text); with != text[at] {
				turned[at] = with
				out = append(out, api.Note{Name: n.Name, Text: string(turned)})
			}
		}
	}
	long := slices.Concat(text[:1], []byte{0x40}, text[1:]) // the Seq in a form that is not num's
	return append(out, api.Note{Name: n.Name, Text: string(long)})
}

func TestReadOfSpoiled(t *testing.T) { // P19.2: what is not just a change's note, at each place
	for _, l := range probe.Schemas() {
		for _, site := range []int{1, 2} {
			cs := following(l, site, 4, 3)
			for i, c := range cs {
				for _, n := range spoiled(l, c) {
					notes := notesOf(l, cs)
					notes[i] = n
					wantUnread(t, l, site, api.ErrChange, n)
					wantUnread(t, l, site, api.ErrChange, notes...)
				}
			}
		}
	}
}

func TestReadOfTurned(t *testing.T) { // P19.2: each byte of a text turned; what is read then is what has just that note
	l := groups()
	c := following(l, 2, 70, 1)[0]
	n := noteOf(l, c)
	read, unread := 0, 0
	for at := range len(n.Text) {
		for _, turn := range []byte{0x01, 0x02, 0x04, 0x08, 0x10, 0x20, 0x40, 0x80, 0xff} {
			text := []byte(n.Text)
			text[at] ^= turn
			turned := api.Note{Name: n.Name, Text: string(text)}
			cs, e := capture.Read(l, 2, []api.Note{turned})
			switch e {
			case api.OK:
				read++
				if len(cs) != 1 || noteOf(l, cs[0]) != turned || cs[0].Site != 2 {
					t.Fatalf("Read(%q) = %v", turned, cs)
				}
			case api.ErrChange:
				unread++
				if got, size, fault := change.Get(text, l); len(cs) != 0 || fault == api.OK && size == len(text) && got.Seq == 70 && got.Site == 2 {
					t.Fatalf("Read(%q) = %v, %d", turned, cs, int(e))
				}
			default:
				t.Fatalf("Read(%q) = %v, %d", turned, cs, int(e))
			}
		}
	}
	if read == 0 || unread == 0 { // a value's byte is another value's then
		t.Errorf("%d read, %d not", read, unread)
	}
}
