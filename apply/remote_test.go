package apply_test

import (
	"math"
	"slices"
	"testing"

	"gemel/api"
	"gemel/apply"
	"gemel/disk"
	"gemel/probe"
	"gemel/store"
)

// of tells those of the changes of probe that are a site's, in order.
func of(l []api.Group, site int) []api.Change {
	return slices.DeleteFunc(probe.Changes(l), func(c api.Change) bool { return c.Site != site })
}

func TestRemote(t *testing.T) { // P22.4: one transaction, byte by byte; it is not synced
	for _, l := range probe.Schemas() {
		for _, site := range []int{1, 2} {
			for _, size := range []int{1, 100, 1 << 20} {
				p := newMirrored(t, l, site, size)
				for _, c := range of(l, 3-site) {
					p.remote(c)
					if p.s.Sure() || p.know[c.Site-1] != c.Seq || p.know[site-1] != 0 {
						t.Fatalf("Sure %t, Know %v", p.s.Sure(), p.know)
					}
				}
			}
		}
	}
}

func TestRemoteAmongOwn(t *testing.T) { // P22.4: joined with what own writes made, ahead of it and behind
	for _, l := range probe.Schemas() {
		for _, site := range []int{1, 2} {
			p := newMirrored(t, l, site, 1000)
			for i, c := range probe.Changes(l) {
				if c.Site == site {
					p.local(10*(i%3), c.Writes...)
				} else {
					p.remote(c)
				}
			}
		}
	}
}

func TestRemoteTime(t *testing.T) { // P22.4: the later one of two
	l := groups()
	for _, x := range []struct{ last, came, behind api.Stamp }{
		{api.Stamp{}, api.Stamp{N: 1, Site: 2}, api.Stamp{N: 1, Site: 2}},
		{api.Stamp{N: 5, Site: 1}, api.Stamp{N: 4, Site: 2}, api.Stamp{N: 5, Site: 1}},
		{api.Stamp{N: 5, Site: 1}, api.Stamp{N: 5, Site: 2}, api.Stamp{N: 5, Site: 2}},
		{api.Stamp{N: 5, Site: 1}, api.Stamp{N: 6, Site: 2}, api.Stamp{N: 6, Site: 2}},
		{api.Stamp{N: 6, Site: 2}, api.Stamp{N: 5, Site: 2}, api.Stamp{N: 6, Site: 2}},
		{api.Stamp{N: 6, Site: 2}, api.Stamp{N: api.MaxCount, Site: 2}, api.Stamp{N: api.MaxCount, Site: 2}},
	} {
		s, _ := fresh(t, l, timeNote(x.last))
		c := api.Change{Site: 2, Seq: 1, Stamp: x.came, Vec: api.Vec{0, 1}, Writes: []api.Write{put("k", 0, "x")}}
		if ok, e := apply.Remote(l, s, 1, c); !ok || e != api.OK || apply.Time(s) != x.behind {
			t.Errorf("%v behind %v: %t, %d, Time %v", x.came, x.last, ok, int(e), apply.Time(s))
		}
	}
}

func TestRemoteVec(t *testing.T) { // P22.4: what its writer knew of plays no part in what is known
	l := groups()
	s, _ := fresh(t, l, knowNote(api.Vec{3, api.MaxSeq - 1}))
	c := api.Change{Site: 2, Seq: api.MaxSeq, Stamp: api.Stamp{N: 1, Site: 2}, Vec: api.Vec{9, api.MaxSeq}, Writes: []api.Write{gone("k", 1)}}
	if ok, e := apply.Remote(l, s, 1, c); !ok || e != api.OK || apply.Know(s) != (api.Vec{3, api.MaxSeq}) {
		t.Errorf("Remote = %t, %d, Know %v", ok, int(e), apply.Know(s))
	}
	if r, _ := s.Get("k"); r.Cells[1].Dead != c.Vec {
		t.Errorf("row %v", r)
	}
}

func TestRemoteAgain(t *testing.T) { // P22.4 and P22.6: nothing is done, whenever it comes again
	for _, l := range probe.Schemas() {
		for _, site := range []int{1, 2} {
			p := newMirrored(t, l, site, 100)
			for i, c := range of(l, 3-site) {
				p.local(5*i, c.Writes[0])
				p.remote(c)
				for _, old := range of(l, 3-site)[:i+1] {
					wantPassed(t, l, p.s, p.d, site, old, api.OK)
					old.Writes = []api.Write{put("other", 0, "x")} // its number tells
					wantPassed(t, l, p.s, p.d, site, old, api.OK)
				}
				p.same()
			}
		}
	}
}

func TestRemoteErrorsInOrder(t *testing.T) { // P22.4
	for _, l := range probe.Schemas() {
		for _, c := range append(probe.NoChanges(l), of(l, 2)...) {
			for _, site := range []int{1, 2, 0, 3, math.MinInt} {
				for _, l := range [][]api.Group{l, nil} {
					for _, s := range noStores() {
						if ok, e := apply.Remote(l, s, site, c); ok || e != api.ErrNil {
							t.Errorf("Remote of no store = %t, %d", ok, int(e))
						}
					}
				}
			}
		}
		for _, s := range dead(t, l, knowNote(api.Vec{2, 2})) {
			for _, c := range append(probe.NoChanges(l), probe.Changes(l)...) { // old ones, too
				for _, site := range []int{1, 2, 3} {
					for _, l := range [][]api.Group{l, nil} {
						if ok, e := apply.Remote(l, s, site, c); ok || e != api.ErrPower {
							t.Errorf("Remote without power = %t, %d", ok, int(e))
						}
					}
				}
			}
		}
		s, d := fresh(t, l, knowNote(api.Vec{1, 1}))
		for _, c := range append(probe.NoChanges(l), probe.Changes(l)...) {
			for _, site := range nobody {
				wantPassed(t, l, s, d, site, c, api.ErrArg)
				wantPassed(t, nil, s, d, site, c, api.ErrArg)
			}
			for _, x := range probe.NoSchemas() {
				wantPassed(t, x.Groups, s, d, 1, c, x.Err)
			}
		}
		for _, c := range probe.NoChanges(l) {
			wantPassed(t, l, s, d, 1, c, api.ErrChange)
			wantPassed(t, l, s, d, 2, c, api.ErrChange)
		}
		for _, c := range probe.Changes(l) {
			wantPassed(t, l, s, d, c.Site, c, api.ErrOrigin)
			switch {
			case c.Seq > 2:
				wantPassed(t, l, s, d, 3-c.Site, c, api.ErrGap)
			case c.Seq < 2:
				wantPassed(t, l, s, d, 3-c.Site, c, api.OK)
			}
		}
	}
}

func TestRemoteRoom(t *testing.T) { // P22.4: Do's error
	l := groups()
	c := api.Change{Site: 1, Seq: 1, Stamp: api.Stamp{N: 5, Site: 1}, Vec: api.Vec{1, 0}, Writes: []api.Write{put("k", 0, "x")}}
	for _, x := range []struct {
		rows, notes int
		e           api.Errno
	}{{api.MaxRows - 1, 0, api.OK}, {api.MaxRows, 0, api.ErrRoom}, {0, api.MaxNotes - 2, api.OK}, {0, api.MaxNotes - 1, api.ErrRoom}, {api.MaxRows, api.MaxNotes, api.ErrRoom}} {
		s, d := full(t, l, x.rows, x.notes)
		if x.e != api.OK {
			wantPassed(t, l, s, d, 2, c, x.e)
		} else if ok, e := apply.Remote(l, s, 2, c); !ok || e != api.OK {
			t.Errorf("%v: %t, %d", x, ok, int(e))
		}
	}
	d := disk.New(20)
	s := open(t, l, d, 1000)
	wantPassed(t, l, s, d, 2, c, api.ErrRoom)
}

func TestRemoteStruck(t *testing.T) { // P22.4 and P22.9
	l := groups()
	for _, keep := range []int{0, 1, 20, 1 << 10} {
		s, d := fresh(t, l)
		want(t, "Sync", s.Sync(), api.OK)
		want(t, "Arm", d.Arm(0, keep), api.OK)
		c := of(l, 2)[0]
		if ok, e := apply.Remote(l, s, 1, c); ok || e != api.ErrPower {
			t.Errorf("Remote = %t, %d", ok, int(e))
		}
		d.Power()
		s = open(t, l, d, 1000)
		whole := keep == 1<<10
		if (apply.Know(s) == api.Vec{0, 1}) != whole || (apply.Time(s) == c.Stamp) != whole || (s.Len() > 0) != whole || (len(s.Notes("")) == 2) != whole {
			t.Errorf("kept %d: Know %v, Time %v, %v", keep, apply.Know(s), apply.Time(s), rowsOf(s))
		}
	}
}

func TestRemoteHandedInStays(t *testing.T) { // rules 4 and 8
	for _, l := range probe.Schemas() {
		s, _ := fresh(t, l)
		for _, c := range of(l, 1) {
			given, allGroups := probe.Roomy(slices.Clone(l), api.Group{Name: "spare", Policy: 9})
			var all []api.Write
			c.Writes, all = probe.Roomy(c.Writes, put("spare", 0, "spare"))
			groupsBefore, before := slices.Clone(allGroups), slices.Clone(all)
			apply.Fresh(given, 2, api.Vec{}, c)
			if ok, e := apply.Remote(given, s, 2, c); !ok || e != api.OK {
				t.Errorf("Remote = %t, %d", ok, int(e))
			}
			if !slices.Equal(all, before) || !slices.Equal(allGroups, groupsBefore) {
				t.Error("what was handed in has changed")
			}
			rows := rowsOf(s)
			clear(all)
			clear(allGroups)
			if !slices.EqualFunc(rowsOf(s), rows, sameRow) {
				t.Errorf("what is held has changed: %v", rowsOf(s))
			}
		}
	}
}

func TestOtherSchema(t *testing.T) { // rule 1: a schema with which the store was not opened ends no call but by an error
	for _, l := range probe.Schemas() {
		for _, other := range probe.Schemas() {
			s, d := fresh(t, l)
			for _, c := range of(l, 2) {
				apply.Remote(l, s, 1, c)
			}
			for _, c := range probe.Changes(other) {
				for _, call := range []func() bool{
					func() bool { _, e := apply.Local(other, s, 1, 0, c.Writes); return e == api.OK },
					func() bool {
						c.Site, c.Seq, c.Stamp.Site, c.Vec = 2, 5, 2, api.Vec{0, 5}
						ok, _ := apply.Remote(other, s, 1, c)
						return ok
					},
					func() bool { ok, _ := apply.Merge(other, s, rowsOf(s)); return ok },
				} {
					if len(l) == len(other) { // the store may take what such a schema makes
						call()
						continue
					}
					wantUnchanged(t, s, d, func() {
						if call() {
							t.Errorf("%v by %v is taken", c, other)
						}
					})
				}
			}
			if e := s.Do(store.Tx{Notes: []api.Note{note("n", "x")}}); e != api.OK {
				t.Errorf("Do: %d", int(e))
			}
		}
	}
}
