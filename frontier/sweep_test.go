package frontier_test

import (
	"fmt"
	"math"
	"math/rand/v2"
	"slices"
	"strings"
	"testing"

	"gemel/api"
	"gemel/frontier"
	"gemel/model"
	"gemel/probe"
)

const (
	last = api.LastWins
	del  = api.DeleteWins
)

// schemas are some of 1 to MaxGroups groups.
var schemas = probe.Schemas()

// sample is a cell, with whether it is a trace, and what it hangs on if it is one.
type sample struct {
	cell  api.Cell
	trace bool
	known api.Vec
}

// put and gone tell the cells of a write, over those of its deletes that Dead tells of.
func put(v, dead api.Vec, value string) api.Cell {
	return api.Cell{Stamp: api.Stamp{N: 6, Site: 2}, Vec: v, Value: value, Dead: dead}
}
func gone(v api.Vec) api.Cell {
	return api.Cell{Stamp: api.Stamp{N: 7, Site: 1}, Vec: v, Gone: true}
}

// samples tells cells that may be by a policy.
func samples(policy int) []sample {
	none, long := api.Vec{}, strings.Repeat("v", api.MaxValue)
	out := []sample{{}, {cell: put(api.Vec{1, 1}, none, "x")}, {cell: put(api.Vec{2, 0}, none, "")}, {cell: put(none, none, "x")}, {cell: put(api.Vec{most, most}, none, long)}}
	trace := func(c api.Cell, known api.Vec) { out = append(out, sample{c, true, known}) }
	vecs := []api.Vec{{1, 0}, {0, 1}, {3, 1}, {1, 3}, {4, 4}, {most, 2}, {0, most}}
	if policy == last {
		trace(gone(none), none)
		for _, v := range vecs {
			trace(gone(v), v)
		}
		return out
	}
	for _, v := range vecs {
		trace(api.Cell{Dead: v}, v)
		out = append(out, sample{cell: put(v, v, "x")}, sample{cell: put(api.Vec{most, most}, v, "")})
	}
	trace(put(api.Vec{1, 0}, api.Vec{0, 1}, "x"), api.Vec{1, 1}) // a write that did not know of the delete
	trace(put(api.Vec{4, 1}, api.Vec{1, 2}, ""), api.Vec{4, 2})
	trace(put(none, api.Vec{2, 3}, long), api.Vec{2, 3})
	trace(put(api.Vec{3, 0}, api.Vec{4, 0}, "x"), api.Vec{4, 0})
	trace(put(api.Vec{most, 1}, api.Vec{1, most}, "x"), api.Vec{most, most})
	return out
}

// notOf tells cells that may not be by a policy, though nothing is to be seen of them.
func notOf(policy int) []api.Cell {
	out := []api.Cell{{Gone: true}, {Value: "x"}, {Vec: api.Vec{1, 0}}, {Dead: api.Vec{-1, 0}}, {Dead: api.Vec{0, most + 1}}, {Stamp: api.Stamp{N: 1, Site: 3}, Gone: true}, {Stamp: api.Stamp{N: 1, Site: 1}, Gone: true, Value: "x"}, gone(api.Vec{-1, 0}), gone(api.Vec{0, most + 1}), put(api.Vec{1, 0}, api.Vec{0, 1}, strings.Repeat("v", api.MaxValue+1))}
	if policy == last {
		return append(out, api.Cell{Dead: api.Vec{1, 0}}, put(api.Vec{1, 0}, api.Vec{0, 1}, "x"))
	}
	return append(out, gone(api.Vec{1, 0}), gone(api.Vec{}))
}

// stables are counts that are good, ones that cover some traces.
var stables = []api.Vec{{}, {1, 0}, {0, 1}, {1, 1}, {3, 1}, {3, 0}, {2, 1}, {1, 3}, {2, 3}, {4, 2}, {4, 1}, {4, 4}, {3, 4}, {most, 1}, {most, 2}, {0, most}, {0, most - 1}, {most, most}, {most, most - 1}}

// goes tells in another way than the program does whether a sample goes.
func goes(x sample, stable api.Vec) bool {
	return x.trace && !(stable[0] < x.known[0] || stable[1] < x.known[1])
}

func TestMay(t *testing.T) { // P23.2
	want := func(policy int, stable api.Vec, c api.Cell, want bool) {
		t.Helper()
		if frontier.May(policy, stable, c) != want {
			t.Fatalf("May(%d, %v, %v) = %t", policy, stable, c, !want)
		}
	}
	want(last, api.Vec{3, 1}, gone(api.Vec{3, 1}), true)
	want(last, api.Vec{2, 9}, gone(api.Vec{3, 1}), false)
	want(last, api.Vec{9, 0}, gone(api.Vec{3, 1}), false)
	want(last, api.Vec{9, 9}, put(api.Vec{3, 1}, api.Vec{}, "x"), false)
	want(last, api.Vec{9, 9}, api.Cell{}, false)
	want(del, api.Vec{9, 9}, api.Cell{}, false)
	want(del, api.Vec{2, 1}, api.Cell{Dead: api.Vec{2, 1}}, true)
	want(del, api.Vec{1, 1}, api.Cell{Dead: api.Vec{2, 1}}, false)
	want(del, api.Vec{1, 1}, put(api.Vec{1, 0}, api.Vec{0, 1}, "x"), true)
	want(del, api.Vec{0, 1}, put(api.Vec{1, 0}, api.Vec{0, 1}, "x"), false) // the write has to be known, too
	want(del, api.Vec{1, 0}, put(api.Vec{1, 0}, api.Vec{0, 1}, "x"), false)
	want(del, api.Vec{9, 9}, put(api.Vec{1, 1}, api.Vec{0, 1}, "x"), false)
	odd := []api.Vec{{-1, 5}, {5, -1}, {math.MinInt, math.MaxInt}, {math.MaxInt, math.MinInt}, {math.MaxInt, math.MaxInt}, {most + 1, most + 1}} // they cover, or not, as others do
	for _, stable := range slices.Concat(stables, odd) {
		for _, policy := range []int{last, del} {
			for _, x := range samples(policy) {
				want(policy, stable, x.cell, goes(x, stable))
				for _, none := range append(nobody, last+del) {
					want(none, stable, x.cell, false)
				}
			}
			for _, c := range notOf(policy) {
				want(policy, stable, c, false)
			}
		}
	}
}

// play is a state of samples.
type play struct {
	rows    []api.Row
	samples [][]sample // of each row
}

// plays tells some of a schema; always the same ones.
func plays(l []api.Group) []play {
	r := rand.New(rand.NewPCG(231, 232))
	var out []play
	for size := range 40 {
		var p play
		for i := range size % 9 {
			var cells []api.Cell
			var of []sample
			for _, g := range l {
				all := samples(g.Policy)
				x := all[r.IntN(len(all))]
				cells, of = append(cells, x.cell), append(of, x)
			}
			if !slices.ContainsFunc(cells, func(c api.Cell) bool { return c != (api.Cell{}) }) {
				continue // bare
			}
			p.rows = append(p.rows, api.Row{Key: string([]byte{'k', byte(30 * i)}), Cells: cells})
			p.samples = append(p.samples, of)
		}
		out = append(out, p)
	}
	return out
}

// sweptOf tells in another way than the program does what Sweep is to tell of a play.
func sweptOf(p play, stable api.Vec) ([]api.Row, api.Vec) {
	var out []api.Row
	var low api.Vec
	for i, r := range p.rows {
		left := api.Row{Key: r.Key}
		any := false
		for _, x := range p.samples[i] {
			if !goes(x, stable) {
				left.Cells = append(left.Cells, x.cell)
				continue
			}
			left.Cells = append(left.Cells, api.Cell{})
			low = api.Vec{max(low[0], x.known[0]), max(low[1], x.known[1])}
			any = true
		}
		if any {
			out = append(out, left)
		}
	}
	return out, low
}

// short tells something as a text that can be read in a test's answer, however long it is.
func short(x any) string {
	return fmt.Sprintf("%.400s", fmt.Sprint(x))
}

// wantSweep wants that Sweep tells just that.
func wantSweep(t *testing.T, l []api.Group, rows []api.Row, stable api.Vec, want []api.Row, low api.Vec) {
	t.Helper()
	got, v, e := frontier.Sweep(l, rows, stable)
	if !probe.SameRows(got, want) || v != low || e != api.OK {
		t.Fatalf("Sweep(%v, %s, %v) = %s, %v, %d, want %s, %v", l, short(rows), stable, short(got), v, int(e), short(want), low)
	}
}

func TestSweep(t *testing.T) { // P23.2
	for _, l := range schemas {
		count := 0
		for _, p := range plays(l) {
			for _, stable := range stables {
				want, low := sweptOf(p, stable)
				count += len(want)
				wantSweep(t, l, p.rows, stable, want, low)
			}
		}
		if count < 100 {
			t.Errorf("only %d rows were swept", count)
		}
		wantSweep(t, l, nil, api.Vec{most, most}, nil, api.Vec{})
	}
}

func TestSweepByHand(t *testing.T) { // P23.2: by a=last,b=delete
	l := schemas[2]
	x, seen := gone(api.Vec{3, 1}), put(api.Vec{9, 9}, api.Vec{1, 0}, "x")
	y := put(api.Vec{0, 5}, api.Vec{2, 0}, "y") // not seen
	row := func(key string, a, b api.Cell) api.Row { return api.Row{Key: key, Cells: []api.Cell{a, b}} }
	rows := []api.Row{row("a", x, seen), row("b", put(api.Vec{1, 0}, api.Vec{}, ""), y), row("c", x, api.Cell{}), row("d", x, y), row("e", put(api.Vec{9, 9}, api.Vec{}, "z"), api.Cell{})}
	none := api.Cell{}
	wantSweep(t, l, rows, api.Vec{2, 9}, []api.Row{row("b", rows[1].Cells[0], none), row("d", x, none)}, api.Vec{2, 5})
	wantSweep(t, l, rows, api.Vec{3, 1}, []api.Row{row("a", none, seen), row("c", none, none), row("d", none, y)}, api.Vec{3, 1}) // one is bare
	wantSweep(t, l, rows, api.Vec{3, 5}, []api.Row{row("a", none, seen), row("b", rows[1].Cells[0], none), row("c", none, none), row("d", none, none)}, api.Vec{3, 5})
	wantSweep(t, l, rows, api.Vec{1, 9}, nil, api.Vec{})
	wantSweep(t, l, rows[:1], api.Vec{most, most}, []api.Row{row("a", none, seen)}, api.Vec{3, 1}) // what they hang on, not what is stable
	wantSweep(t, l, rows[4:], api.Vec{most, most}, nil, api.Vec{})
	wantSweep(t, l, []api.Row{row("k", gone(api.Vec{}), none)}, api.Vec{}, []api.Row{row("k", none, none)}, api.Vec{}) // it hangs on nothing
}

func TestSweepOfMany(t *testing.T) { // P23.2: no limit of rows is named
	l := schemas[2]
	var rows, want []api.Row
	for i := range 3 * api.MaxRows {
		key := string([]byte{'k', byte(i / 256), byte(i)})
		rows = append(rows, api.Row{Key: key, Cells: []api.Cell{gone(api.Vec{i, 1}), put(api.Vec{9, 9}, api.Vec{}, "x")}})
		if i <= 500 {
			want = append(want, api.Row{Key: key, Cells: []api.Cell{{}, rows[i].Cells[1]}})
		}
	}
	wantSweep(t, l, rows, api.Vec{500, 7}, want, api.Vec{500, 1})
}

func TestSweepErrors(t *testing.T) { // P23.2
	none := func(l []api.Group, rows []api.Row, stable api.Vec, want api.Errno) {
		t.Helper()
		if got, low, e := frontier.Sweep(l, rows, stable); len(got) != 0 || low != (api.Vec{}) || e != want {
			t.Fatalf("Sweep(%v, %v, %v) = %v, %v, %d, want %d", l, rows, stable, got, low, int(e), int(want))
		}
	}
	for _, l := range schemas {
		for _, p := range plays(l) {
			for _, stable := range badVecs() {
				none(l, p.rows, stable, api.ErrArg)
			}
		}
		for _, stable := range []api.Vec{{}, {most, most}, {-1, 5}, {5, most + 1}} { // model's error goes ahead
			for _, rows := range probe.NoStates(l) {
				none(l, rows, stable, model.Good(l, rows))
			}
			for _, x := range probe.NoSchemas() {
				for _, rows := range append(probe.NoStates(l)[:30], nil, plays(l)[5].rows) {
					none(x.Groups, rows, stable, x.Err)
				}
			}
		}
	}
}

// behind tells what is left of a state, of which these rows were swept.
func behind(rows, swept []api.Row) []api.Row {
	var out []api.Row
	for _, r := range rows {
		if i := slices.IndexFunc(swept, func(s api.Row) bool { return s.Key == r.Key }); i >= 0 {
			r = swept[i]
		}
		if slices.ContainsFunc(r.Cells, func(c api.Cell) bool { return c != (api.Cell{}) }) {
			out = append(out, r)
		}
	}
	return out
}

// sameViews tells whether two lists of views are.
func sameViews(a, b []api.View) bool {
	return slices.EqualFunc(a, b, func(a, b api.View) bool { return a.Key == b.Key && slices.Equal(a.Fields, b.Fields) })
}

func TestSeenAndRest(t *testing.T) { // P23.3 and P23.4
	for _, l := range schemas {
		states := probe.States(l)
		for _, p := range plays(l) {
			states = append(states, p.rows)
		}
		for _, rows := range states {
			seen := model.Scan(l, rows, "", "", math.MaxInt)
			for _, stable := range stables {
				swept, low, e := frontier.Sweep(l, rows, stable)
				left := behind(rows, swept)
				if e != api.OK || !sameViews(model.Scan(l, left, "", "", math.MaxInt), seen) {
					t.Fatalf("behind a Sweep of %v is seen %v, not %v", rows, model.Scan(l, left, "", "", math.MaxInt), seen)
				}
				if low[0] > stable[0] || low[1] > stable[1] {
					t.Fatalf("Sweep of %v tells %v of %v", rows, low, stable)
				}
				wantSweep(t, l, left, stable, nil, api.Vec{})
			}
		}
	}
}

func TestHandedInStays(t *testing.T) { // rules 4 and 8
	for _, l := range schemas {
		groups, allGroups := probe.Roomy(l, api.Group{Name: "spare", Policy: del})
		groupsBefore := slices.Clone(allGroups)
		for _, p := range plays(l) {
			for _, stable := range []api.Vec{{}, {3, 1}, {most, most}} {
				rows, stays := probe.RoomyRows(l, p.rows)
				want, low := sweptOf(p, stable)
				wantSweep(t, groups, rows, stable, want, low)
				got, _, _ := frontier.Sweep(groups, rows, stable)
				if !stays() {
					t.Fatalf("the memory of %v was changed", p.rows)
				}
				for _, r := range rows {
					clear(r.Cells)
				}
				clear(rows)
				if !probe.SameRows(got, want) {
					t.Fatalf("what was handed out has become %v, not %v", got, want)
				}
			}
		}
		for _, rows := range probe.NoStates(l) {
			bad, stays := probe.RoomyRows(l, rows)
			if _, _, e := frontier.Sweep(groups, bad, api.Vec{}); e != model.Good(l, rows) || !stays() {
				t.Fatalf("Sweep of %v: %d", rows, int(e))
			}
		}
		if !slices.Equal(allGroups, groupsBefore) {
			t.Fatalf("the memory of %v was changed", l)
		}
	}
}

func TestHandedOutIsNew(t *testing.T) { // rule 4
	for _, l := range schemas {
		for _, p := range plays(l) {
			rows, _ := probe.RoomyRows(l, p.rows)
			lists := [][]api.Row{rows}
			for range 2 {
				swept, _, _ := frontier.Sweep(l, rows, api.Vec{most, most})
				lists = append(lists, swept)
			}
			var cells [][]api.Cell
			for _, rows := range lists {
				for _, r := range rows {
					cells = append(cells, r.Cells)
				}
			}
			if !probe.Apart(lists...) || !probe.Apart(cells...) {
				t.Fatalf("what is handed out of %v shares memory", p.rows)
			}
		}
	}
}
