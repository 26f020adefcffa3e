package apply_test

import (
	"fmt"
	"math"
	"slices"
	"testing"

	"gemel/api"
	"gemel/apply"
	"gemel/disk"
	"gemel/model"
	"gemel/probe"
	"gemel/stamp"
	"gemel/store"
)

// stamped tells the cell of a write.
func stamped(n, site int, value string) api.Cell {
	return api.Cell{Stamp: api.Stamp{N: n, Site: site}, Vec: api.Vec{n, n}, Value: value}
}

// state tells what changes make.
func state(t *testing.T, l []api.Group, cs []api.Change) []api.Row {
	t.Helper()
	rows, e := model.State(l, cs)
	want(t, "State", e, api.OK)
	return rows
}

// lastOf tells the last one of a stamp and those of rows' cells.
func lastOf(last api.Stamp, rows []api.Row) api.Stamp {
	for _, r := range rows {
		for _, c := range r.Cells {
			if stamp.Less(last, c.Stamp) {
				last = c.Stamp
			}
		}
	}
	return last
}

func TestMerge(t *testing.T) { // P22.5: one transaction, byte by byte, of those rows that change something
	for _, l := range probe.Schemas() {
		all := probe.Changes(l)
		for here := range len(all) + 1 {
			for from := range len(all) {
				for until := from + 1; until <= len(all); until++ {
					p := newMirrored(t, l, 1, 1<<20)
					there := state(t, l, all[:here])
					if here > 0 {
						p.merge(there, there, lastOf(api.Stamp{}, there))
					}
					came := state(t, l, all[from:until])
					changing := slices.DeleteFunc(slices.Clone(came), func(r api.Row) bool { return model.Within(l, []api.Row{r}, held(there, r.Key)) })
					if len(changing) > 0 {
						p.merge(came, changing, lastOf(p.time, changing))
					}
					wantUnmerged(t, l, p.s, p.d, came, api.OK) // all of it is there
					wantUnmerged(t, l, p.s, p.d, there, api.OK)
					if p.s.Sure() {
						t.Fatal("it is synced")
					}
					both, _ := model.Merge(l, there, came)
					if !slices.EqualFunc(rowsOf(p.s), both, sameRow) {
						t.Fatalf("rows %v, want %v", rowsOf(p.s), both)
					}
				}
			}
		}
	}
}

// held tells the row of a key, in a list.
func held(rows []api.Row, key string) []api.Row {
	return slices.DeleteFunc(slices.Clone(rows), func(r api.Row) bool { return r.Key != key })
}

func TestMergeNothing(t *testing.T) { // P22.5
	s, d := fresh(t, groups())
	wantUnmerged(t, groups(), s, d, nil, api.OK)
	wantUnmerged(t, groups(), s, d, []api.Row{}, api.OK)
}

func TestMergeTime(t *testing.T) { // P22.5: of the rows that change something alone, and as they were handed in
	l := []api.Group{{Name: "a", Policy: api.LastWins}, {Name: "b", Policy: api.LastWins}, {Name: "c", Policy: api.DeleteWins}}
	cells := func(a, b api.Cell) []api.Cell { return []api.Cell{a, b, {}} }
	there := []api.Row{{Key: "k", Cells: cells(stamped(50, 1, "x"), api.Cell{})}, {Key: "l", Cells: cells(stamped(40, 1, "y"), stamped(2, 2, "z"))}}
	k, m := there[0], api.Row{Key: "m", Cells: cells(stamped(7, 2, "m"), stamped(3, 1, "n"))}
	for _, x := range []struct {
		last         api.Stamp
		rows         []api.Row
		changing     []int
		behind       api.Stamp
		changesThere bool
	}{
		{api.Stamp{}, []api.Row{k, m}, []int{1}, api.Stamp{N: 7, Site: 2}, true}, // k's 50 plays no part
		{api.Stamp{N: 7, Site: 1}, []api.Row{k, m}, []int{1}, api.Stamp{N: 7, Site: 2}, true},
		{api.Stamp{N: 8, Site: 1}, []api.Row{k, m}, []int{1}, api.Stamp{N: 8, Site: 1}, true},
		{api.Stamp{}, []api.Row{k}, nil, api.Stamp{}, false},
		{api.Stamp{N: 1, Site: 1}, []api.Row{{Key: "l", Cells: cells(stamped(30, 2, "older"), stamped(9, 1, "newer"))}}, []int{0}, api.Stamp{N: 30, Site: 2}, true}, // 30 adds nothing, and 40 was there
		{api.Stamp{N: 1, Site: 1}, []api.Row{{Key: "l", Cells: cells(api.Cell{}, stamped(9, 1, "newer"))}, m}, []int{0, 1}, api.Stamp{N: 9, Site: 1}, true},
		{api.Stamp{N: 1, Site: 1}, []api.Row{{Key: "l", Cells: cells(stamped(30, 2, "older"), stamped(1, 1, "older"))}, m}, []int{1}, api.Stamp{N: 7, Site: 2}, true},
		{api.Stamp{}, []api.Row{{Key: "l", Cells: []api.Cell{{}, {}, {Dead: api.Vec{9, 9}}}}}, []int{0}, api.Stamp{}, true}, // no stamp at all
		{api.Stamp{N: 4, Site: 2}, []api.Row{{Key: "z", Cells: []api.Cell{{}, {}, {Dead: api.Vec{9, 9}}}}}, []int{0}, api.Stamp{N: 4, Site: 2}, true},
	} {
		p := newMirrored(t, l, 2, 1<<20)
		for _, s := range []*store.Store{p.s, p.m} {
			want(t, "Do", s.Do(store.Tx{Rows: there, Notes: []api.Note{timeNote(x.last)}}), api.OK)
		}
		p.time = x.last
		if !x.changesThere {
			wantUnmerged(t, l, p.s, p.d, x.rows, api.OK)
			continue
		}
		var changing []api.Row
		for _, i := range x.changing {
			changing = append(changing, x.rows[i])
		}
		p.merge(x.rows, changing, x.behind)
	}
}

func TestMergeAmongOwn(t *testing.T) { // P22.5 and P22.8: what is known, and own changes, stay; what is written next is later
	for _, l := range probe.Schemas() {
		all := state(t, l, probe.Changes(l))
		for count := range len(of(l, 2)) + 1 {
			p := newMirrored(t, l, 1, 100)
			for i, c := range of(l, 2)[:count] {
				p.local(2*i, c.Writes...)
				p.remote(c)
			}
			know, own := apply.Know(p.s), p.s.Notes("o")
			for _, rows := range [][]api.Row{all[count%len(all):], all} {
				if _, e := apply.Merge(l, p.s, rows); e != api.OK {
					t.Fatalf("Merge: %d", int(e))
				}
			}
			if apply.Know(p.s) != know || !slices.Equal(p.s.Notes("o"), own) || !model.Within(l, all, rowsOf(p.s)) {
				t.Fatalf("Know %v, notes %q, rows %v", apply.Know(p.s), p.s.Notes(""), rowsOf(p.s))
			}
			last := lastOf(api.Stamp{}, rowsOf(p.s))
			c, e := apply.Local(l, p.s, 1, 0, of(l, 1)[0].Writes)
			if !stamp.Less(last, c.Stamp) || e != api.OK {
				t.Fatalf("%v behind %v", c, last)
			}
		}
	}
}

func TestMergeErrorsInOrder(t *testing.T) { // P22.5
	for _, l := range probe.Schemas() {
		rows := state(t, l, probe.Changes(l))
		bad := [][]api.Row{{rows[1], rows[0]}, {rows[0], rows[0]}, {{Key: "k", Cells: make([]api.Cell, len(l))}}, append(slices.Clone(rows), api.Row{Key: "\xff\xff\xff", Cells: make([]api.Cell, len(l))})}
		for _, s := range noStores() {
			for _, rows := range append(bad, nil, rows) {
				for _, l := range [][]api.Group{l, nil} {
					if ok, e := apply.Merge(l, s, rows); ok || e != api.ErrNil {
						t.Errorf("Merge of no store = %t, %d", ok, int(e))
					}
				}
			}
		}
		for _, s := range dead(t, l) {
			for _, rows := range append(bad, nil, rows) {
				for _, l := range [][]api.Group{l, nil} {
					if ok, e := apply.Merge(l, s, rows); ok || e != api.ErrPower {
						t.Errorf("Merge without power = %t, %d", ok, int(e))
					}
				}
			}
		}
		s, d := fresh(t, l)
		for _, x := range probe.NoSchemas() {
			for _, rows := range append(bad, nil, rows) {
				wantUnmerged(t, x.Groups, s, d, rows, x.Err)
			}
		}
		for _, rows := range bad {
			wantUnmerged(t, l, s, d, rows, api.ErrRow)
		}
		for _, x := range probe.NoRows(l) {
			wantUnmerged(t, l, s, d, []api.Row{x.Row}, x.Err)
			wantUnmerged(t, l, s, d, append(slices.Clone(rows), x.Row), x.Err)
			wantUnmerged(t, l, s, d, append([]api.Row{x.Row}, bad[0]...), x.Err)
		}
	}
}

func TestMergeRoom(t *testing.T) { // P22.5: Do's error
	l := groups()
	var rows []api.Row
	for i := range api.MaxRows + 1 {
		rows = append(rows, api.Row{Key: fmt.Sprintf("key%d", 1000+i), Cells: []api.Cell{stamped(1+i, 1, "x"), {}}})
	}
	s, d := fresh(t, l)
	wantUnmerged(t, l, s, d, rows, api.ErrRoom)
	if ok, e := apply.Merge(l, s, rows[:api.MaxRows]); !ok || e != api.OK || s.Len() != api.MaxRows {
		t.Errorf("Merge = %t, %d, %d rows", ok, int(e), s.Len())
	}
	wantUnmerged(t, l, s, d, rows, api.ErrRoom)
	wantUnmerged(t, l, s, d, rows[:api.MaxRows], api.OK)
	for _, notes := range []int{api.MaxNotes - 1, api.MaxNotes} {
		s, d := full(t, l, 1, notes)
		if notes == api.MaxNotes {
			wantUnmerged(t, l, s, d, rows[:1], api.ErrRoom)
		} else if ok, e := apply.Merge(l, s, rows[:1]); !ok || e != api.OK {
			t.Errorf("Merge = %t, %d", ok, int(e))
		}
	}
	d = disk.New(20)
	wantUnmerged(t, l, open(t, l, d, 1000), d, rows[:1], api.ErrRoom)
}

func TestMergeStruck(t *testing.T) { // P22.5: it is there whole, or not at all
	l := groups()
	rows := state(t, l, probe.Changes(l))
	for _, keep := range []int{0, 1, 50, math.MaxInt} {
		s, d := fresh(t, l)
		want(t, "Arm", d.Arm(0, keep), api.OK)
		if ok, e := apply.Merge(l, s, rows); ok || e != api.ErrPower {
			t.Errorf("Merge = %t, %d", ok, int(e))
		}
		d.Power()
		s = open(t, l, d, 1000)
		switch {
		case keep == math.MaxInt && slices.EqualFunc(rowsOf(s), rows, sameRow) && apply.Time(s) == lastOf(api.Stamp{}, rows):
		case keep < math.MaxInt && s.Len() == 0 && len(s.Notes("")) == 0:
		default:
			t.Errorf("kept %d: %v, %q", keep, rowsOf(s), s.Notes(""))
		}
	}
}

func TestMergeHandedInStays(t *testing.T) { // rules 4 and 8
	for _, l := range probe.Schemas() {
		s, _ := fresh(t, l)
		for _, part := range [][]api.Change{of(l, 1), probe.Changes(l)} {
			given, allGroups := probe.Roomy(slices.Clone(l), api.Group{Name: "spare", Policy: 9})
			rows := state(t, l, part)
			var cells, before [][]api.Cell
			for i, r := range rows {
				var all []api.Cell
				rows[i].Cells, all = probe.Roomy(r.Cells, api.Cell{Gone: true})
				cells, before = append(cells, all), append(before, slices.Clone(all))
			}
			roomy, all := probe.Roomy(rows, api.Row{Key: "spare"})
			allBefore, groupsBefore := slices.Clone(all), slices.Clone(allGroups)
			if ok, e := apply.Merge(given, s, roomy); !ok || e != api.OK {
				t.Errorf("Merge = %t, %d", ok, int(e))
			}
			if !slices.EqualFunc(cells, before, slices.Equal) || !slices.EqualFunc(all, allBefore, sameRow) || !slices.Equal(allGroups, groupsBefore) {
				t.Error("what was handed in has changed")
			}
			held := rowsOf(s)
			for i := range cells {
				clear(cells[i])
			}
			clear(all)
			if !slices.EqualFunc(rowsOf(s), held, sameRow) {
				t.Errorf("what is held has changed: %v", rowsOf(s))
			}
		}
	}
}
