package apply_test

import (
	"fmt"
	"math"
	"slices"
	"strings"
	"testing"

	"gemel/api"
	"gemel/apply"
	"gemel/disk"
	"gemel/probe"
	"gemel/store"
)

// greatest is the greatest counts and stamp that a store can know of.
var greatest = []api.Note{knowNote(api.Vec{api.MaxSeq, api.MaxSeq}), timeNote(api.Stamp{N: api.MaxCount, Site: 1})}

func TestLocal(t *testing.T) { // P22.3: one transaction, byte by byte, and it is sure
	for _, l := range probe.Schemas() {
		for _, site := range []int{1, 2} {
			for _, size := range []int{1, 100, 1 << 20} {
				p := newMirrored(t, l, site, size)
				for i, c := range slices.Concat(probe.Changes(l), probe.Changes(l)) {
					now := []int{0, 5, 3, 40, math.MinInt, 41, api.MaxTime - 30, 7, math.MaxInt}[i%9]
					own := p.local(now, c.Writes...)
					if !p.s.Sure() || own.Seq != i+1 {
						t.Fatalf("Sure %t, %v", p.s.Sure(), own)
					}
				}
			}
		}
	}
}

func TestLocalOfBoth(t *testing.T) { // P22.3: it knows of what came, and is later
	for _, l := range probe.Schemas() {
		for _, site := range []int{1, 2} {
			p := newMirrored(t, l, site, 1000)
			for i, c := range probe.Changes(l) {
				if c.Site != site {
					p.remote(c)
				}
				own := p.local(i/2, c.Writes...)
				if own.Vec[c.Site-1] < c.Seq || own.Stamp.N <= c.Stamp.N && c.Site != site {
					t.Fatalf("%v behind %v", own, c)
				}
			}
		}
	}
}

func TestLocalCanon(t *testing.T) { // P22.3: the writes are put in order; of each place the last one counts
	l := groups()
	s, _ := fresh(t, l)
	var w []api.Write
	for i := range 50 {
		w = append(w, put(fmt.Sprint("k", 3-i%4), i/4%2, fmt.Sprint(i)))
	}
	w = append(w, gone("k1", 0), put("a", 1, ""), gone("a", 1))
	c, e := apply.Local(l, s, 2, 9, w[:48])
	want(t, "Local", e, api.OK)
	for i, x := range c.Writes {
		if x.Key != fmt.Sprint("k", i/2) || x.Group != i%2 || x.Value != fmt.Sprint(40+4*(i%2)+3-i/2) {
			t.Errorf("write %d is %v", i, x)
		}
	}
	last := []api.Write{gone("a", 1), put("k0", 1, "47"), gone("k1", 0), put("k1", 1, "46"), put("k2", 0, "49"), put("k2", 1, "45"), put("k3", 0, "48"), put("k3", 1, "44")}
	if c, e := apply.Local(l, s, 2, 9, w[44:]); e != api.OK || !slices.Equal(c.Writes, last) {
		t.Errorf("Local = %v, %d, want %v", c, int(e), last)
	}
	if len(last) != api.MaxWrites || len(w[44:]) <= api.MaxWrites {
		t.Errorf("%d writes of %d places", len(w[44:]), len(last))
	}
}

func TestLocalTime(t *testing.T) { // P22.3: not behind the time, and behind the last stamp
	l := groups()
	for _, x := range []struct{ last, now, n int }{
		{0, 0, 1}, {0, math.MinInt, 1}, {0, -1, 1}, {0, 1, 1}, {0, 2, 2}, {0, api.MaxTime, api.MaxTime}, {0, api.MaxTime + 1, api.MaxTime}, {0, math.MaxInt, api.MaxTime},
		{7, 0, 8}, {7, 7, 8}, {7, 8, 8}, {7, 9, 9}, {api.MaxTime, math.MaxInt, api.MaxTime + 1}, {api.MaxCount - 1, 0, api.MaxCount},
	} {
		for _, by := range []int{1, 2} {
			s, _ := fresh(t, l)
			if x.last > 0 {
				s.Do(store.Tx{Notes: []api.Note{timeNote(api.Stamp{N: x.last, Site: by})}})
			}
			stamp := api.Stamp{N: x.n, Site: 1}
			if c, e := apply.Local(l, s, 1, x.now, []api.Write{put("k", 0, "")}); c.Stamp != stamp || e != api.OK || apply.Time(s) != stamp {
				t.Errorf("behind %d at %d: %v, %d, Time %v, want %v", x.last, x.now, c, int(e), apply.Time(s), stamp)
			}
		}
	}
}

func TestLocalCounts(t *testing.T) { // P22.3: up to MaxSeq
	l := groups()
	s, d := fresh(t, l, knowNote(api.Vec{api.MaxSeq - 1, api.MaxSeq}))
	w := []api.Write{put("k", 0, "x")}
	c, e := apply.Local(l, s, 1, 4, w)
	if c.Seq != api.MaxSeq || c.Vec != (api.Vec{api.MaxSeq, api.MaxSeq}) || e != api.OK || s.Note("o1099511627776") == "" {
		t.Errorf("Local = %v, %d", c, int(e))
	}
	for _, site := range []int{1, 2} {
		wantRefused(t, l, s, d, site, 4, w, api.ErrLong)
	}
}

// noWrites tells lists of writes that make no change by a schema.
func noWrites(l []api.Group) [][]api.Write {
	long, longer := strings.Repeat("k", api.MaxKey+1), strings.Repeat("v", api.MaxValue+1)
	out := [][]api.Write{nil, {}}
	var many []api.Write
	for i := range api.MaxWrites + 1 {
		many = append(many, put(fmt.Sprint("k", i), 0, "x"))
	}
	out = append(out, many)
	for _, w := range []api.Write{put("", 0, "x"), gone("", 0), put(long, 0, "x"), put("k", -1, "x"), put("k", len(l), "x"), gone("k", len(l)), put("k", math.MaxInt, "x"), put("k", math.MinInt, "x"), put("k", 0, longer), {Key: "k", Gone: true, Value: "x"}} {
		out = append(out, []api.Write{w}, []api.Write{put("a", 0, "x"), w, put("z", 0, "y")})
	}
	return out
}

func TestLocalErrorsInOrder(t *testing.T) { // P22.3
	for _, l := range probe.Schemas() {
		w := []api.Write{put("k", 0, "x")}
		for _, bad := range append(noWrites(l), w) {
			for _, s := range noStores() {
				for _, site := range []int{1, 2, 0, 3, math.MinInt} {
					for _, l := range [][]api.Group{l, nil} {
						if c, e := apply.Local(l, s, site, 0, bad); !sameChange(c, api.Change{}) || e != api.ErrNil {
							t.Errorf("Local of no store = %v, %d", c, int(e))
						}
					}
				}
			}
		}
		for _, s := range dead(t, l, greatest...) {
			for _, site := range []int{1, 2, 0, 3} {
				for _, bad := range [][]api.Write{nil, w} {
					for _, l := range [][]api.Group{l, nil} {
						if c, e := apply.Local(l, s, site, 0, bad); !sameChange(c, api.Change{}) || e != api.ErrPower {
							t.Errorf("Local without power = %v, %d", c, int(e))
						}
					}
				}
			}
		}
		s, d := fresh(t, l, greatest...)
		for _, site := range nobody {
			wantRefused(t, l, s, d, site, 0, w, api.ErrArg)
			wantRefused(t, nil, s, d, site, 0, nil, api.ErrArg)
		}
		for _, site := range []int{1, 2} {
			wantRefused(t, nil, s, d, site, math.MaxInt, nil, api.ErrLong)
		}
		for site := 1; site <= 2; site++ {
			for by := 1; by <= 2; by++ {
				know := api.Vec{api.MaxSeq, api.MaxSeq}
				know[site-1]--
				s, d := fresh(t, l, knowNote(know), timeNote(api.Stamp{N: api.MaxCount, Site: by}))
				wantRefused(t, nil, s, d, site, 0, nil, api.ErrClock)
				wantRefused(t, l, s, d, site, 0, w, api.ErrClock)
			}
		}
		s, d = fresh(t, l)
		for _, bad := range append(noWrites(l), w) {
			for _, x := range probe.NoSchemas() {
				wantRefused(t, x.Groups, s, d, 2, 0, bad, x.Err)
			}
		}
		for _, bad := range noWrites(l) {
			wantRefused(t, l, s, d, 1, 0, bad, api.ErrChange)
			wantRefused(t, l, s, d, 2, 9, bad, api.ErrChange)
		}
	}
}

// full tells a store with as many rows and notes as these.
func full(t *testing.T, l []api.Group, rows, notes int) (*store.Store, *disk.Disk) {
	t.Helper()
	s, d := fresh(t, l)
	for i := range rows {
		r := api.Row{Key: fmt.Sprintf("row%d", 1000+i), Cells: make([]api.Cell, len(l))}
		r.Cells[0] = api.Cell{Stamp: api.Stamp{N: 1, Site: 2}, Vec: api.Vec{0, 1}}
		want(t, "Do", s.Do(store.Tx{Rows: []api.Row{r}}), api.OK)
	}
	for i := range notes {
		want(t, "Do", s.Do(store.Tx{Notes: []api.Note{note(fmt.Sprintf("note%d", 1000+i), "x")}}), api.OK)
	}
	return s, d
}

func TestLocalRoom(t *testing.T) { // P22.3: Do's error
	l := groups()
	one, two := put("k", 0, "x"), put("row1000", 0, "y")
	for _, x := range []struct {
		rows, notes int
		w           []api.Write
		e           api.Errno
	}{
		{api.MaxRows - 1, 0, []api.Write{one}, api.OK}, {api.MaxRows, 0, []api.Write{one}, api.ErrRoom}, {api.MaxRows, 0, []api.Write{one, two}, api.ErrRoom}, {api.MaxRows, 0, []api.Write{two}, api.OK},
		{api.MaxRows - 1, 0, []api.Write{one, put("l", 0, "x")}, api.ErrRoom},
		{0, api.MaxNotes - 3, []api.Write{one}, api.OK}, {0, api.MaxNotes - 2, []api.Write{one}, api.ErrRoom}, {0, api.MaxNotes, []api.Write{one}, api.ErrRoom},
	} {
		s, d := full(t, l, x.rows, x.notes)
		if x.e == api.OK {
			if _, e := apply.Local(l, s, 1, 0, x.w); e != api.OK || apply.Know(s) != (api.Vec{1, 0}) {
				t.Errorf("%v: %d", x, int(e))
			}
			continue
		}
		wantRefused(t, l, s, d, 1, 0, x.w, x.e)
	}
	d := disk.New(100)
	s := open(t, l, d, 1000)
	if _, e := apply.Local(l, s, 1, 0, []api.Write{one}); e != api.OK {
		t.Errorf("Local: %d", int(e))
	}
	wantRefused(t, l, s, d, 1, 0, []api.Write{put("k", 0, strings.Repeat("x", 40))}, api.ErrRoom)
}

func TestLocalStruck(t *testing.T) { // P22.3 and P22.9: the power fails in Do, or in Sync
	l := groups()
	for n := range 2 {
		for _, keep := range []int{0, 1, 30, 1 << 10} {
			s, d := fresh(t, l)
			first, e := apply.Local(l, s, 1, 0, []api.Write{put("k", 0, "x")})
			want(t, "Local", e, api.OK)
			want(t, "Arm", d.Arm(n, keep), api.OK)
			if c, e := apply.Local(l, s, 1, 5, []api.Write{put("k", 0, "y"), gone("m", 1)}); !sameChange(c, api.Change{}) || e != api.ErrPower {
				t.Errorf("Local = %v, %d", c, int(e))
			}
			d.Power()
			s = open(t, l, d, 1000)
			r, _ := s.Get("k")
			switch know := apply.Know(s); {
			case know == first.Vec && apply.Time(s) == first.Stamp && s.Len() == 1 && len(s.Notes("o")) == 1 && r.Cells[0].Value == "x" && keep < 1<<10:
			case know == api.Vec{2, 0} && apply.Time(s).N == 5 && s.Len() == 2 && len(s.Notes("o")) == 2 && r.Cells[0].Value == "y" && keep == 1<<10:
			default:
				t.Errorf("operation %d, kept %d: Know %v, Time %v, %v, %q", n, keep, know, apply.Time(s), rowsOf(s), s.Notes(""))
			}
		}
	}
}

func TestLocalWithoutFile(t *testing.T) { // P22.3: Do's error is handed on, whatever it is
	l := groups()
	s, d := fresh(t, l)
	want(t, "Drop", d.Drop(d.Names()[0]), api.OK)
	wantRefused(t, l, s, d, 1, 5, []api.Write{put("k", 0, "y")}, api.ErrFile)
}

func TestLocalHandedInStays(t *testing.T) { // rules 4 and 8
	for _, l := range probe.Schemas() {
		given, allGroups := probe.Roomy(slices.Clone(l), api.Group{Name: "spare", Policy: 9})
		s, _ := fresh(t, l)
		w, all := probe.Roomy([]api.Write{put("m", 0, "x"), put("k", 0, "z"), gone("m", 0), put("k", len(l)-1, "y")}, put("spare", 0, "spare"))
		groupsBefore, before := slices.Clone(allGroups), slices.Clone(all)
		c, e := apply.Local(given, s, 1, 0, w)
		want(t, "Local", e, api.OK)
		if !slices.Equal(all, before) || !slices.Equal(allGroups, groupsBefore) || !probe.Apart(all, c.Writes) {
			t.Errorf("what was handed in has changed, or is handed out: %v, %v", all, c)
		}
		kept := slices.Clone(c.Writes)
		rows, notes := rowsOf(s), s.Notes("")
		clear(all)
		if !slices.Equal(c.Writes, kept) {
			t.Errorf("what was told has changed: %v", c)
		}
		clear(c.Writes[:cap(c.Writes)])
		if !slices.EqualFunc(rowsOf(s), rows, sameRow) || !slices.Equal(s.Notes(""), notes) {
			t.Errorf("what is held has changed: %v, %q", rowsOf(s), s.Notes(""))
		}
	}
}
