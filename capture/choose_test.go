package capture_test

import (
	"fmt"
	"math"
	"math/rand/v2"
	"slices"
	"testing"

	"gemel/api"
	"gemel/capture"
	"gemel/probe"
	"gemel/store"
)

// of tells a change that Own and From ask for its Site and its Seq alone.
func of(site, seq int) api.Change {
	return api.Change{Site: site, Seq: seq, Stamp: api.Stamp{N: 3, Site: 1}, Vec: api.Vec{5, 6}, Writes: []api.Write{{Key: fmt.Sprint(site), Value: fmt.Sprint(seq)}}}
}

// ofSeqs tells changes of these numbers.
func ofSeqs(seqs ...int) []api.Change {
	var out []api.Change
	for i, seq := range seqs {
		out = append(out, of(1+i%2, seq))
	}
	return out
}

func wantOwn(t *testing.T, site int, cs []api.Change, want ...api.Change) {
	t.Helper()
	if got := capture.Own(site, cs); !slices.EqualFunc(got, want, same) {
		t.Errorf("Own(%d, %v) = %v, want %v", site, cs, got, want)
	}
}

func TestOwn(t *testing.T) { // P19.3 and P19.6
	a, b, c, d := of(1, 4), of(2, 4), of(1, 2), of(2, 9)
	for _, site := range []int{math.MinInt, -1, 0, 1, 2, 3, math.MaxInt} {
		wantOwn(t, site, nil)
		wantOwn(t, site, []api.Change{})
	}
	wantOwn(t, 1, []api.Change{a, b, c, d}, a, c) // some, in their order
	wantOwn(t, 2, []api.Change{a, b, c, d}, b, d)
	wantOwn(t, 2, []api.Change{d, a, b, c}, d, b)
	wantOwn(t, 1, []api.Change{a, c}, a, c) // all
	wantOwn(t, 2, []api.Change{d, d, b, d}, d, d, b, d)
	wantOwn(t, 2, []api.Change{a, c}) // none
	wantOwn(t, 1, []api.Change{d})
	for _, site := range []int{math.MinInt, -1, 0, 3, 1<<32 + 1, math.MaxInt} { // neither 1 nor 2
		wantOwn(t, site, []api.Change{a, b, c, d})
		wantOwn(t, 1, []api.Change{of(site, 1), a, of(site, 2)}, a)
		wantOwn(t, site, []api.Change{of(site, 1), a, of(site, 2)}, of(site, 1), of(site, 2))
	}
	cs := probe.Changes(groups())
	wantOwn(t, 1, cs, cs[0], cs[2], cs[4], cs[6])
	wantOwn(t, 2, cs, cs[1], cs[3], cs[5], cs[7])
}

func TestOwnOfMany(t *testing.T) { // P19.3 and P19.6: each one is told of its own site alone
	r := rand.New(rand.NewPCG(191, 192))
	for range 50 {
		var cs []api.Change
		sites := map[int][]api.Change{}
		for i := range r.IntN(100) {
			c := of(r.IntN(4), i)
			cs, sites[c.Site] = append(cs, c), append(sites[c.Site], c)
		}
		for site := range 5 {
			wantOwn(t, site, cs, sites[site]...)
		}
	}
}

func wantFrom(t *testing.T, cs []api.Change, seq, n int, want ...api.Change) {
	t.Helper()
	if got := capture.From(cs, seq, n); !slices.EqualFunc(got, want, same) {
		t.Errorf("From(%v, %d, %d) = %v, want %v", cs, seq, n, got, want)
	}
}

func TestFrom(t *testing.T) { // P19.3
	cs := ofSeqs(3, 4, 5, 6)
	for seq, skipped := range map[int]int{math.MinInt: 0, -1: 0, 0: 0, 1: 0, 2: 0, 3: 1, 4: 2, 5: 3, 6: 4, 7: 4, api.MaxSeq: 4, math.MaxInt: 4} {
		rest := cs[skipped:]
		for _, n := range []int{math.MinInt, -4, -1, 0} {
			wantFrom(t, cs, seq, n)
		}
		for _, n := range []int{1, 2, 3, 4, 5, 100, math.MaxInt} {
			wantFrom(t, cs, seq, n, rest[:min(n, len(rest))]...)
		}
	}
	for _, n := range []int{math.MinInt, 0, 1, math.MaxInt} {
		wantFrom(t, nil, 0, n)
		wantFrom(t, []api.Change{}, math.MinInt, n)
	}
}

func TestFromOutOfOrder(t *testing.T) { // P19.3: the first ones in the list, whatever their numbers are
	cs := ofSeqs(9, 2, 7, 7, 1, 5, 8)
	wantFrom(t, cs, 0, 7, cs...)
	wantFrom(t, cs, 0, 3, cs[0], cs[1], cs[2])
	wantFrom(t, cs, 1, 9, cs[0], cs[1], cs[2], cs[3], cs[5], cs[6])
	wantFrom(t, cs, 5, 9, cs[0], cs[2], cs[3], cs[6])
	wantFrom(t, cs, 5, 3, cs[0], cs[2], cs[3])
	wantFrom(t, cs, 6, 1, cs[0])
	wantFrom(t, cs, 7, 2, cs[0], cs[6])
	wantFrom(t, cs, 8, 2, cs[0])
	wantFrom(t, cs, 9, 2)
	odd := ofSeqs(math.MaxInt, math.MinInt, -1, 0, api.MaxSeq+1)
	wantFrom(t, odd, math.MinInt, 9, odd[0], odd[2], odd[3], odd[4])
	wantFrom(t, odd, -1, 9, odd[0], odd[3], odd[4])
	wantFrom(t, odd, api.MaxSeq, 9, odd[0], odd[4])
	wantFrom(t, odd, math.MaxInt, 9)
}

// named tells notes of these names, each with a text of its own.
func named(names ...string) []api.Note {
	var out []api.Note
	for i, name := range names {
		out = append(out, api.Note{Name: name, Text: fmt.Sprint("text ", i)})
	}
	return out
}

func wantTrim(t *testing.T, notes []api.Note, ack int, want ...string) {
	t.Helper()
	got := capture.Trim(notes, ack)
	var none []api.Note
	for _, name := range want {
		none = append(none, api.Note{Name: name})
	}
	if !slices.Equal(got, none) {
		t.Errorf("Trim(%q, %d) = %q, want %q", notes, ack, got, none)
	}
}

func TestTrim(t *testing.T) { // P19.3
	three, four, five, six := "o0000000000003", "o0000000000004", "o0000000000005", "o0000000000006"
	notes := named(three, four, five, six)
	for _, ack := range []int{math.MinInt, -1, 0, 1, 2} {
		wantTrim(t, notes, ack)
	}
	wantTrim(t, notes, 3, three)
	wantTrim(t, notes, 4, three, four)
	wantTrim(t, notes, 5, three, four, five)
	for _, ack := range []int{6, 7, api.MaxSeq, api.MaxSeq + 1, math.MaxInt} {
		wantTrim(t, notes, ack, three, four, five, six)
	}
	wantTrim(t, named(six, three, three, five, four), 5, three, three, five, four) // not in order
	for _, ack := range []int{math.MinInt, 0, 5, math.MaxInt} {
		wantTrim(t, nil, ack)
		wantTrim(t, []api.Note{}, ack)
	}
	wantTrim(t, []api.Note{{Name: four}, {Name: six}, {Name: three}}, 5, four, three) // without text
	most := "o1099511627776"
	wantTrim(t, named(three, most), api.MaxSeq-1, three)
	wantTrim(t, named(three, most), api.MaxSeq, three, most)
}

func TestTrimOfNone(t *testing.T) { // P19.3: names that are those of no number
	one := "o0000000000001"
	names := []string{"", "o", "know", "time", "front", "low", "p0000000000001", "o000000000001", "o00000000000001", "o+000000000001", "o 000000000001", "o000000000000x", "o0000000000000", "o1099511627777", "o9999999999999"}
	for _, ack := range []int{math.MinInt, -1, 0, 1, api.MaxSeq, math.MaxInt} {
		wantTrim(t, named(names...), ack)
	}
	for _, ack := range []int{1, api.MaxSeq, math.MaxInt} {
		wantTrim(t, named(append(names, one)...), ack, one)
		wantTrim(t, named(append([]string{one}, names...)...), ack, one)
	}
}

func TestTrimmed(t *testing.T) { // P19.5: in a store, whose notes these are, where others stand beside them
	for _, l := range probe.Schemas() {
		for _, first := range []int{1, 1 << 30, api.MaxSeq - 19} {
			cs := following(l, 1, first, 20)
			for _, ack := range []int{math.MinInt, 0, first - 1, first, first + 1, first + 10, first + 18, first + 19, first + 20, math.MaxInt} {
				s, e := store.Open(l, probe.Disk(nil), 1<<16)
				if e != api.OK {
					t.Fatal(int(e))
				}
				others := []api.Note{{Name: "know", Text: "x"}, {Name: "p0000000000001", Text: "y"}}
				put := slices.Concat(others[:1], notesOf(l, cs), others[1:])
				if e := s.Do(store.Tx{Notes: put}); e != api.OK {
					t.Fatal(int(e))
				}
				trimmed := capture.Trim(s.Notes(""), ack)
				if len(trimmed) > 0 {
					if e := s.Do(store.Tx{Notes: trimmed}); e != api.OK {
						t.Fatal(int(e))
					}
				}
				wantRead(t, l, 1, s.Notes("o"), capture.From(cs, ack, len(cs))...)
				if len(s.Notes("")) != len(cs)-len(trimmed)+len(others) || s.Note("know") != "x" || s.Note("p0000000000001") != "y" {
					t.Fatalf("behind Trim of %d: %q", ack, s.Notes(""))
				}
			}
		}
	}
}

func TestBack(t *testing.T) { // P19.4: Note's notes, and what Own and From tell of them
	for _, l := range probe.Schemas() {
		for _, site := range []int{1, 2} {
			cs := following(l, site, 1, 40)
			var notes []api.Note
			for _, c := range cs {
				n, e := capture.Note(l, c)
				if e != api.OK || capture.Number(n.Name) != c.Seq {
					t.Fatalf("Note(%v) = %q, %d", c, n, int(e))
				}
				notes = append(notes, n)
			}
			for from := range 41 {
				wantRead(t, l, site, notes[from:], cs[from:]...)
			}
			wantOwn(t, site, cs, cs...)
			wantOwn(t, 3-site, cs)
			wantFrom(t, cs, 0, 40, cs...)
		}
	}
}
