package probe_test

import (
	"slices"
	"testing"

	"gemel/api"
	"gemel/model"
	"gemel/probe"
	"gemel/row"
)

func TestNoRows(t *testing.T) {
	for _, l := range probe.Schemas() {
		errs := map[api.Errno]int{}
		for _, x := range probe.NoRows(l) {
			errs[x.Err]++
			if e := row.Good(l, x.Row); e != x.Err || e == api.OK {
				t.Errorf("%v: %d, want %d", x.Row, int(e), int(x.Err))
			}
		}
		if len(errs) != 4 {
			t.Errorf("errors %v", errs)
		}
	}
}

func TestOne(t *testing.T) {
	x := api.Cell{Stamp: api.Stamp{N: 5, Site: 1}, Value: "x"}
	for _, l := range probe.Schemas() {
		for group := range l {
			r := probe.One(l, "k", group, x)
			if r.Key != "k" || len(r.Cells) != len(l) || r.Cells[group] != x {
				t.Errorf("One of group %d: %v", group, r)
			}
			r.Cells[group] = api.Cell{}
			if !row.Bare(r) {
				t.Errorf("One of group %d: %v besides", group, r)
			}
		}
	}
}

func TestSameRows(t *testing.T) {
	l := probe.Schemas()[2]
	x := api.Cell{Stamp: api.Stamp{N: 5, Site: 1}, Value: "x"}
	k, m, other := probe.One(l, "k", 0, x), probe.One(l, "m", 0, x), probe.One(l, "k", 1, x)
	lists := [][]api.Row{nil, {k}, {m}, {other}, {k, m}, {m, k}, {k, k}, {{Key: "k"}}}
	for i, a := range lists {
		for j, b := range lists {
			if probe.SameRows(a, b) != (i == j) {
				t.Errorf("SameRows(%v, %v) = %t", a, b, i != j)
			}
		}
		if again := append([]api.Row{}, a...); !probe.SameRows(a, again) {
			t.Errorf("%v are told to be others", again)
		}
	}
}

func TestStates(t *testing.T) {
	for _, l := range probe.Schemas() {
		sizes := map[int]int{}
		for _, rows := range probe.States(l) {
			sizes[len(rows)]++
			if e := model.Good(l, rows); e != api.OK {
				t.Errorf("%v: %d", rows, int(e))
			}
		}
		if sizes[0] != 1 || len(sizes) < 3 {
			t.Errorf("states of %v rows", sizes)
		}
	}
}

func TestNoStates(t *testing.T) {
	for _, l := range probe.Schemas() {
		errs := map[api.Errno]int{}
		for _, rows := range probe.NoStates(l) {
			errs[model.Good(l, rows)]++
		}
		if errs[api.OK] != 0 || len(errs) != 4 {
			t.Errorf("errors %v", errs)
		}
	}
}

func TestRoomyRows(t *testing.T) {
	l := probe.Schemas()[2]
	rows := probe.States(l)[2]
	spoil := []func(part []api.Row){
		func(part []api.Row) { part[0].Key = "other" },
		func(part []api.Row) { part[1].Cells[0].Value = "other" },
		func(part []api.Row) { part[1].Cells = slices.Clone(part[1].Cells) },
		func(part []api.Row) { _ = append(part, rows[0]) },
		func(part []api.Row) { _ = append(part[1].Cells, api.Cell{}) },
	}
	for i, do := range spoil {
		part, stays := probe.RoomyRows(l, rows)
		if !probe.SameRows(part, rows) || !stays() || cap(part) == len(part) || cap(part[0].Cells) == len(part[0].Cells) {
			t.Errorf("%v of %v", part, rows)
		}
		if do(part); stays() {
			t.Errorf("change %d is not told", i)
		}
	}
	if part, stays := probe.RoomyRows(l, nil); len(part) != 0 || cap(part) == 0 || !stays() {
		t.Errorf("%v of no rows", part)
	}
}
