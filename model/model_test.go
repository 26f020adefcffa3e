package model_test

import (
	"maps"
	"math"
	"slices"
	"testing"

	"gemel/api"
	"gemel/change"
	"gemel/join"
	"gemel/model"
	"gemel/policy"
	"gemel/probe"
	"gemel/row"
)

const (
	last = api.LastWins
	del  = api.DeleteWins
)

// schemas are some of 1 to MaxGroups groups, noSchemas groups that are none.
var (
	schemas   = probe.Schemas()
	noSchemas = probe.NoSchemas()
)

// ab is the schema a=last,b=delete.
var ab = schemas[2]

// put tells a write of a value.
func put(key string, group int, value string) api.Write {
	return api.Write{Key: key, Group: group, Value: value}
}

// gone tells a write that is a delete.
func gone(key string, group int) api.Write {
	return api.Write{Key: key, Group: group, Gone: true}
}

// at tells a site's change whose stamp has that number, and whose writer knew of so many changes.
func at(site, n int, v api.Vec, writes ...api.Write) api.Change {
	return api.Change{Site: site, Seq: v[site-1], Stamp: api.Stamp{N: n, Site: site}, Vec: v, Writes: writes}
}

// cellOf tells the cell of a write of a value.
func cellOf(n, site int, v api.Vec, value string) api.Cell {
	return api.Cell{Stamp: api.Stamp{N: n, Site: site}, Vec: v, Value: value}
}

// ofTwo tells a row of a schema of two groups.
func ofTwo(key string, a, b api.Cell) api.Row {
	return api.Row{Key: key, Cells: []api.Cell{a, b}}
}

// sameView tells whether two views are.
func sameView(a, b api.View) bool {
	return a.Key == b.Key && slices.Equal(a.Fields, b.Fields)
}

// sameViews tells whether two lists of views are.
func sameViews(a, b []api.View) bool {
	return slices.EqualFunc(a, b, sameView)
}

// inOrder tells rows by their keys in order.
func inOrder(rows map[string]api.Row) []api.Row {
	var out []api.Row
	for _, key := range slices.Sorted(maps.Keys(rows)) {
		out = append(out, rows[key])
	}
	return out
}

// stateOf tells in another way than the program does what rows changes are to make.
func stateOf(l []api.Group, cs []api.Change) []api.Row {
	rows := map[string]api.Row{}
	for _, c := range cs {
		for _, w := range c.Writes {
			if _, there := rows[w.Key]; !there {
				rows[w.Key] = api.Row{Key: w.Key, Cells: make([]api.Cell, len(l))}
			}
			have := &rows[w.Key].Cells[w.Group]
			made := api.Cell{Stamp: c.Stamp, Vec: c.Vec, Gone: w.Gone, Value: w.Value, Dead: have.Dead}
			if w.Gone && l[w.Group].Policy == del {
				have.Dead = api.Vec{max(have.Dead[0], c.Vec[0]), max(have.Dead[1], c.Vec[1])}
			} else if join.Less(*have, made) {
				*have = made
			}
		}
	}
	return inOrder(rows)
}

// mergeOf tells in another way than the program does what the Merge of two states is to be.
func mergeOf(l []api.Group, a, b []api.Row) []api.Row {
	rows := map[string]api.Row{}
	for _, r := range slices.Concat(a, b) {
		if have, there := rows[r.Key]; there {
			r, _ = row.Join(l, have, r)
		}
		rows[r.Key] = r
	}
	return inOrder(rows)
}

// states tells some of a schema; always the same ones.
func states(l []api.Group) [][]api.Row {
	cs := probe.Changes(l)
	out := [][]api.Row{nil, {}}
	for i := range cs {
		out = append(out, stateOf(l, cs[i:i+1]), stateOf(l, cs[:i+1]), stateOf(l, cs[i:]))
	}
	most := len(l) - 1
	for _, keys := range [][]string{{"k"}, {"a", "k"}, {"k", "z"}, {"", "k", "k\x00", "k\x00\x00", "ka", "kaa"}, {"\x00", "\x00\x00", "\x7f", "\x80", "\xff"}} {
		var rows []api.Row
		for i, key := range keys {
			if key != "" {
				rows = append(rows, probe.One(l, key, most, cellOf(20+i, 1+i%2, api.Vec{9, 9}, key)))
			}
		}
		out = append(out, rows)
	}
	return out
}

// wrong tells in another way than the program does what is wrong with rows.
func wrong(l []api.Group, rows []api.Row) api.Errno {
	if e := policy.Good(l); e != api.OK {
		return e
	}
	ahead := ""
	for _, r := range rows {
		e := row.Good(l, r)
		if e == api.OK && (row.Bare(r) || !(ahead < r.Key)) {
			e = api.ErrRow
		}
		if e != api.OK {
			return e
		}
		ahead = r.Key
	}
	return api.OK
}

func wantGood(t *testing.T, l []api.Group, rows []api.Row, want api.Errno) {
	t.Helper()
	if e := model.Good(l, rows); e != want {
		t.Fatalf("Good(%v, %v) = %d, want %d", l, rows, int(e), int(want))
	}
}

func TestGood(t *testing.T) { // P13.1
	for _, l := range schemas {
		for _, rows := range states(l) {
			wantGood(t, l, rows, api.OK)
		}
		var many []api.Row
		for i := range 1000 {
			many = append(many, probe.One(l, string([]byte{'k', byte(i / 256), byte(i)}), i%len(l), cellOf(1, 1, api.Vec{1, 0}, "")))
		}
		for size := range 4 {
			wantGood(t, l, many[:size], api.OK)
		}
		wantGood(t, l, many, api.OK)
		many[999], many[998] = many[998], many[999]
		wantGood(t, l, many, api.ErrRow)
		wantGood(t, l, many[:999], api.OK)
	}
}

func TestGoodErrors(t *testing.T) { // P13.1
	x := cellOf(5, 1, api.Vec{1, 0}, "x")
	a, k, m, bare := ofTwo("a", x, x), ofTwo("k", x, api.Cell{}), ofTwo("m", api.Cell{}, x), ofTwo("k", api.Cell{}, api.Cell{})
	for _, x := range []struct {
		rows []api.Row
		want api.Errno
	}{
		{[]api.Row{a, k, m}, api.OK},
		{[]api.Row{bare}, api.ErrRow}, {[]api.Row{bare, m}, api.ErrRow}, {[]api.Row{a, bare, m}, api.ErrRow}, {[]api.Row{a, bare}, api.ErrRow},
		{[]api.Row{k, k}, api.ErrRow}, {[]api.Row{k, a}, api.ErrRow}, {[]api.Row{a, m, k}, api.ErrRow}, {[]api.Row{a, k, a}, api.ErrRow},
		{[]api.Row{{Key: "", Cells: a.Cells}}, api.ErrArg}, // row's error of a row goes ahead of its place's
		{[]api.Row{a, {Key: "", Cells: a.Cells}}, api.ErrArg},
		{[]api.Row{a, {Key: "", Cells: bare.Cells}}, api.ErrArg},
		{[]api.Row{m, {Key: "a", Cells: []api.Cell{{Gone: true}, {}}}}, api.ErrCell},
		{[]api.Row{m, {Key: "a", Cells: []api.Cell{{}}}}, api.ErrRow},
		{[]api.Row{k, k, {Key: "", Cells: a.Cells}}, api.ErrRow}, // and that of the first row ahead of the others'
		{[]api.Row{bare, {Key: "", Cells: a.Cells}}, api.ErrRow},
		{[]api.Row{{Key: "", Cells: a.Cells}, bare}, api.ErrArg},
		{[]api.Row{{Key: "k", Cells: []api.Cell{{Gone: true}, {}}}, {Key: "", Cells: a.Cells}}, api.ErrCell},
		{[]api.Row{{Key: "k", Cells: []api.Cell{{Gone: true}, {}}}, k, k}, api.ErrCell},
		{[]api.Row{a, {Key: "k", Cells: []api.Cell{{}, {Stamp: api.Stamp{N: 5, Site: 1}, Vec: api.Vec{1, 0}, Gone: true}}}}, api.ErrCell}, // by the other policy
	} {
		wantGood(t, ab, x.rows, x.want)
	}
	for _, l := range schemas {
		for _, rows := range probe.NoStates(l) {
			if wrong(l, rows) == api.OK {
				t.Fatalf("%v are a state", rows)
			}
			wantGood(t, l, rows, wrong(l, rows))
		}
		for _, x := range noSchemas { // policy's errors go ahead
			for _, rows := range slices.Concat(states(l), probe.NoStates(l)) {
				wantGood(t, x.Groups, rows, x.Err)
			}
		}
		for _, x := range probe.NoRows(l) {
			wantGood(t, l, []api.Row{x.Row}, x.Err)
		}
	}
}

func TestGoodOfAny(t *testing.T) { // P13.1: up to three of some rows, however they stand
	for _, l := range schemas {
		x := cellOf(5, 1, api.Vec{1, 0}, "x")
		pool := []api.Row{probe.One(l, "a", 0, x), probe.One(l, "k", 0, x), probe.One(l, "k\x00", len(l)-1, x), probe.One(l, "\xff", 0, x), probe.One(l, "k", 0, api.Cell{}), {Key: "k"}, probe.One(l, "", 0, x), probe.One(l, "z", 0, api.Cell{Gone: true})}
		for _, a := range pool {
			for _, b := range pool {
				for _, c := range pool {
					rows := []api.Row{a, b, c}
					for size := range 4 {
						wantGood(t, l, rows[:size], wrong(l, rows[:size]))
					}
				}
			}
		}
	}
}

func wantMerge(t *testing.T, l []api.Group, a, b, want []api.Row) {
	t.Helper()
	got, e := model.Merge(l, a, b)
	if e != api.OK || !probe.SameRows(got, want) {
		t.Fatalf("Merge(%v, %v, %v) = %v, %d, want %v", l, a, b, got, int(e), want)
	}
}

func TestMerge(t *testing.T) { // P13.1
	x, y, dead := cellOf(5, 1, api.Vec{1, 0}, "x"), cellOf(5, 2, api.Vec{0, 1}, "y"), api.Cell{Dead: api.Vec{0, 2}}
	both := x
	both.Dead = dead.Dead
	none := api.Cell{}
	rows := func(keys ...string) []api.Row {
		var out []api.Row
		for _, key := range keys {
			out = append(out, ofTwo(key, x, none))
		}
		return out
	}
	for _, c := range []struct{ a, b, want []api.Row }{
		{nil, nil, nil},
		{rows("k"), nil, rows("k")}, // keys of one side alone
		{rows("a", "k", "m"), nil, rows("a", "k", "m")},
		{rows("a"), rows("k", "m"), rows("a", "k", "m")}, // one side ends first
		{rows("k"), rows("a", "m"), rows("a", "k", "m")},
		{rows("m"), rows("a", "k"), rows("a", "k", "m")},
		{rows("a", "k", "m"), rows("k"), rows("a", "k", "m")}, // keys of both
		{rows("a", "c", "e"), rows("b", "d", "f"), rows("a", "b", "c", "d", "e", "f")},
		{rows("k", "k\x00\x00"), rows("k\x00", "kk"), rows("k", "k\x00", "k\x00\x00", "kk")}, // keys that begin one another
		{rows("\x00", "\x80"), rows("\x00\x00", "\x7f", "\xff"), rows("\x00", "\x00\x00", "\x7f", "\x80", "\xff")},
		{[]api.Row{ofTwo("k", x, x)}, []api.Row{ofTwo("k", y, y)}, []api.Row{ofTwo("k", y, y)}}, // cells of both
		{[]api.Row{ofTwo("k", x, none)}, []api.Row{ofTwo("k", none, y)}, []api.Row{ofTwo("k", x, y)}},
		{[]api.Row{ofTwo("k", x, x)}, []api.Row{ofTwo("k", none, dead)}, []api.Row{ofTwo("k", x, both)}},
		{[]api.Row{ofTwo("a", x, y), ofTwo("k", x, x)}, []api.Row{ofTwo("k", y, dead), ofTwo("m", y, none)}, []api.Row{ofTwo("a", x, y), ofTwo("k", y, both), ofTwo("m", y, none)}},
	} {
		wantMerge(t, ab, c.a, c.b, c.want)
		wantMerge(t, ab, c.b, c.a, c.want)
		wantMerge(t, ab, c.want, c.a, c.want)
	}
	for _, l := range schemas {
		for _, a := range states(l) {
			for _, b := range states(l) {
				wantMerge(t, l, a, b, mergeOf(l, a, b))
			}
			wantMerge(t, l, a, a, a)
		}
	}
}

func TestMergeErrors(t *testing.T) { // P13.1
	none := func(l []api.Group, a, b []api.Row, want api.Errno) {
		t.Helper()
		if rows, e := model.Merge(l, a, b); len(rows) != 0 || e != want {
			t.Fatalf("Merge(%v, %v, %v) = %v, %d, want none and %d", l, a, b, rows, int(e), int(want))
		}
	}
	for _, l := range schemas {
		good := states(l)[4]
		bad := probe.NoStates(l)
		for _, rows := range bad {
			none(l, rows, good, wrong(l, rows))
			none(l, good, rows, wrong(l, rows))
			none(l, nil, rows, wrong(l, rows))
			none(l, rows, nil, wrong(l, rows))
			for _, other := range bad { // a's goes ahead of b's
				none(l, rows, other, wrong(l, rows))
			}
			for _, x := range noSchemas {
				none(x.Groups, rows, good, x.Err)
				none(x.Groups, good, rows, x.Err)
			}
		}
		for _, x := range noSchemas {
			none(x.Groups, nil, nil, x.Err)
			none(x.Groups, good, good, x.Err)
		}
	}
}

func wantState(t *testing.T, l []api.Group, cs []api.Change, want []api.Row) {
	t.Helper()
	got, e := model.State(l, cs)
	if e != api.OK || !probe.SameRows(got, want) {
		t.Fatalf("State(%v, %v) = %v, %d, want %v", l, cs, got, int(e), want)
	}
	if e := model.Good(l, got); e != api.OK {
		t.Fatalf("State(%v, %v) = %v, which is no state: %d", l, cs, got, int(e))
	}
}

// orders tells changes in every order.
func orders(cs []api.Change) [][]api.Change {
	if len(cs) == 0 {
		return [][]api.Change{nil}
	}
	var out [][]api.Change
	for i := range cs {
		for _, rest := range orders(slices.Concat(cs[:i], cs[i+1:])) {
			out = append(out, append([]api.Change{cs[i]}, rest...))
		}
	}
	return out
}

func TestState(t *testing.T) { // P13.2
	for _, l := range schemas {
		wantState(t, l, nil, nil)
		wantState(t, l, []api.Change{}, nil)
		cs := probe.Changes(l)
		for i, c := range cs {
			rows, _ := change.Rows(l, c)
			wantState(t, l, cs[i:i+1], rows)
			wantState(t, l, []api.Change{c, c, c, c, c}, rows)
			for end := i; end <= len(cs); end++ {
				wantState(t, l, cs[i:end], stateOf(l, cs[i:end]))
				wantState(t, l, slices.Concat(cs[i:end], cs[i:end], cs[:i]), stateOf(l, cs[:end]))
			}
		}
		for _, order := range orders(cs[:5]) {
			wantState(t, l, order, stateOf(l, cs[:5]))
		}
	}
}

func TestStateOfOneCell(t *testing.T) { // P13.2: both sites write one cell, and delete it
	x, xGone := at(1, 5, api.Vec{1, 0}, put("k", 0, "x"), put("k", 1, "x")), at(2, 5, api.Vec{0, 1}, gone("k", 0), gone("k", 1))
	y := at(1, 6, api.Vec{2, 0}, put("k", 0, "y"), put("k", 1, "y"))
	z := at(2, 9, api.Vec{2, 2}, put("k", 0, "z"), put("k", 1, "z"))
	zGone := at(1, 9, api.Vec{3, 0}, gone("k", 0), gone("k", 1))
	lastGone := func(n, site int, v api.Vec) api.Cell {
		return api.Cell{Stamp: api.Stamp{N: n, Site: site}, Vec: v, Gone: true}
	}
	over := func(c api.Cell, v api.Vec) api.Cell {
		c.Dead = v
		return c
	}
	cx, cy, cz := cellOf(5, 1, api.Vec{1, 0}, "x"), cellOf(6, 1, api.Vec{2, 0}, "y"), cellOf(9, 2, api.Vec{2, 2}, "z")
	for _, c := range []struct {
		cs   []api.Change
		want api.Row
	}{
		{[]api.Change{x}, ofTwo("k", cx, cx)},
		{[]api.Change{xGone}, ofTwo("k", lastGone(5, 2, api.Vec{0, 1}), api.Cell{Dead: api.Vec{0, 1}})},
		{[]api.Change{x, xGone}, ofTwo("k", lastGone(5, 2, api.Vec{0, 1}), over(cx, api.Vec{0, 1}))},
		{[]api.Change{x, xGone, y}, ofTwo("k", cy, over(cy, api.Vec{0, 1}))},
		{[]api.Change{x, xGone, y, z}, ofTwo("k", cz, over(cz, api.Vec{0, 1}))},
		{[]api.Change{x, xGone, y, z, zGone}, ofTwo("k", cz, over(cz, api.Vec{3, 1}))},
		{[]api.Change{xGone, zGone}, ofTwo("k", lastGone(9, 1, api.Vec{3, 0}), api.Cell{Dead: api.Vec{3, 1}})},
	} {
		for _, order := range orders(c.cs) {
			wantState(t, ab, order, []api.Row{c.want})
			wantState(t, ab, slices.Concat(order, order), []api.Row{c.want})
		}
	}
}

func TestExample(t *testing.T) { // the chapter's
	l := schemas[0]
	x, dead, y := at(1, 1, api.Vec{1, 0}, put("k", 0, "x")), at(2, 1, api.Vec{0, 1}, gone("k", 0)), at(1, 2, api.Vec{2, 0}, put("k", 0, "y"))
	rows, e := model.State(l, []api.Change{x, dead})
	if v, ok := model.Get(l, rows, "k"); e != api.OK || ok || !sameView(v, api.View{}) {
		t.Errorf("of x and the delete is seen %v, %t, %d", v, ok, int(e))
	}
	rows, e = model.State(l, []api.Change{x, dead, y})
	if v, ok := model.Get(l, rows, "k"); e != api.OK || !ok || !sameView(v, api.View{Key: "k", Fields: []api.Field{{Value: "y"}}}) {
		t.Errorf("with y is seen %v, %t, %d", v, ok, int(e))
	}
}

func TestStateErrors(t *testing.T) { // P13.2
	none := func(l []api.Group, cs []api.Change, want api.Errno) {
		t.Helper()
		if rows, e := model.State(l, cs); len(rows) != 0 || e != want {
			t.Fatalf("State(%v, %v) = %v, %d, want none and %d", l, cs, rows, int(e), int(want))
		}
	}
	for _, l := range schemas {
		cs := probe.Changes(l)
		for _, bad := range probe.NoChanges(l) {
			for size := range 5 {
				for i := range size + 1 { // first, between and last
					list := slices.Insert(slices.Clone(cs[:size]), i, bad)
					none(l, list, api.ErrChange)
					for _, x := range noSchemas {
						none(x.Groups, list, x.Err)
					}
				}
			}
			none(l, []api.Change{bad, bad}, api.ErrChange)
		}
		for _, x := range noSchemas {
			none(x.Groups, nil, x.Err)
			none(x.Groups, cs, x.Err)
		}
	}
	none(schemas[0], []api.Change{at(1, 1, api.Vec{1, 0}, put("k", 1, "x"))}, api.ErrChange) // of a group that another schema has
}

func TestStateOfMany(t *testing.T) { // P13.2
	var cs []api.Change
	for i := range 3000 {
		cs = append(cs, at(1+i%2, 1+i*7%100, api.Vec{i + 1, i + 1}, put(string([]byte{byte(i), byte(i % 3)}), i%2, "x"), gone(string([]byte{byte(i), 'z'}), i/2%2)))
	}
	wantState(t, ab, cs, stateOf(ab, cs))
}

func TestWithin(t *testing.T) { // P13.2
	want := func(l []api.Group, a, b []api.Row, want bool) {
		t.Helper()
		if got := model.Within(l, a, b); got != want {
			t.Fatalf("Within(%v, %v, %v) = %t", l, a, b, got)
		}
	}
	x, y, dead := cellOf(5, 1, api.Vec{1, 0}, "x"), cellOf(5, 2, api.Vec{0, 1}, "y"), api.Cell{Dead: api.Vec{0, 2}}
	none := api.Cell{}
	rowX, rowY, rowDead, rowM := []api.Row{ofTwo("k", x, none)}, []api.Row{ofTwo("k", y, none)}, []api.Row{ofTwo("k", none, dead)}, []api.Row{ofTwo("m", x, none)}
	want(ab, nil, nil, true)
	want(ab, nil, rowX, true)
	want(ab, rowX, nil, false)
	want(ab, rowX, rowX, true)
	want(ab, rowX, rowY, true) // y's stamp is the later one
	want(ab, rowY, rowX, false)
	want(ab, rowX, rowDead, false) // neither is within the other one
	want(ab, rowDead, rowX, false)
	want(ab, rowX, rowM, false)
	want(ab, rowM, rowX, false)
	want(ab, rowX, []api.Row{ofTwo("k", y, dead)}, true)
	want(ab, rowDead, []api.Row{ofTwo("k", y, dead)}, true)
	want(ab, rowDead, []api.Row{ofTwo("k", none, api.Cell{Dead: api.Vec{1, 1}})}, false)
	for _, l := range schemas {
		all := states(l)
		for _, a := range all {
			for _, b := range all {
				both := mergeOf(l, a, b)
				want(l, a, b, probe.SameRows(both, b))
				want(l, a, both, true)
				want(l, b, both, true)
				want(l, both, a, probe.SameRows(both, a))
			}
			want(l, a, a, true)
			for _, x := range noSchemas {
				want(x.Groups, a, a, false)
				want(x.Groups, nil, a, false)
			}
			for _, bad := range probe.NoStates(l) { // no state, on either side
				want(l, bad, a, false)
				want(l, a, bad, false)
				want(l, bad, bad, false)
				want(l, nil, bad, false)
				want(l, bad, nil, false)
			}
		}
	}
}

// seenRows tells a state of ab of whose rows there is to be seen, in turns: nothing, a, b, both of them, nothing.
func seenRows() ([]api.Row, []api.View) {
	x, y := cellOf(5, 1, api.Vec{1, 0}, "x"), cellOf(6, 2, api.Vec{2, 2}, "")
	aGone, bGone, bOver := api.Cell{Stamp: api.Stamp{N: 5, Site: 2}, Vec: api.Vec{0, 1}, Gone: true}, api.Cell{Dead: api.Vec{0, 2}}, x
	bOver.Dead = api.Vec{0, 1}
	yOver := y
	yOver.Dead = api.Vec{2, 1}
	a, b := api.Field{Group: 0, Value: "x"}, api.Field{Group: 1, Value: ""}
	rows := []api.Row{
		ofTwo("\x00", aGone, bGone), ofTwo("b", x, bOver), ofTwo("b\x00", aGone, yOver), ofTwo("bb", x, y), ofTwo("c", aGone, api.Cell{}),
		ofTwo("d", api.Cell{}, bGone), ofTwo("d\xff", x, api.Cell{}), ofTwo("\x7f", api.Cell{}, y), ofTwo("\x80", x, y), ofTwo("\xff", api.Cell{}, bOver),
	}
	return rows, []api.View{{Key: "b", Fields: []api.Field{a}}, {Key: "b\x00", Fields: []api.Field{b}}, {Key: "bb", Fields: []api.Field{a, b}}, {Key: "d\xff", Fields: []api.Field{a}}, {Key: "\x7f", Fields: []api.Field{b}}, {Key: "\x80", Fields: []api.Field{a, b}}}
}

// someKeys are keys of states, ones that stand between them, ahead of all and behind all.
var someKeys = []string{"", "\x00", "\x00\x00", "\x01", "a", "ab", "b", "b\x00", "b\x00\x00", "ba", "bb", "bb\x00", "c", "d", "d\xfe", "d\xff", "d\xff\xff", "e", "k", "k\x00", "kk", "\x7f", "\x7f\x00", "\x80", "\xfe\xff", "\xff", "\xff\xff", "\xff\xff\xff"}

func TestGet(t *testing.T) { // P13.3
	want := func(l []api.Group, rows []api.Row, key string, want api.View, there bool) {
		t.Helper()
		if v, ok := model.Get(l, rows, key); !sameView(v, want) || ok != there {
			t.Fatalf("Get(%v, %v, %q) = %v, %t, want %v, %t", l, rows, key, v, ok, want, there)
		}
	}
	rows, views := seenRows()
	for _, key := range someKeys {
		i := slices.IndexFunc(views, func(v api.View) bool { return v.Key == key })
		if i < 0 {
			want(ab, rows, key, api.View{}, false)
		} else {
			want(ab, rows, key, views[i], true)
		}
		want(ab, nil, key, api.View{}, false)
	}
	for _, l := range schemas {
		for _, rows := range states(l) {
			for _, key := range someKeys {
				var v api.View
				ok := false
				for _, r := range rows {
					if r.Key == key {
						v, ok = row.View(l, r)
					}
				}
				want(l, rows, key, v, ok)
				for _, x := range noSchemas {
					want(x.Groups, rows, key, api.View{}, false)
				}
			}
		}
		for _, rows := range probe.NoStates(l) {
			for _, key := range append([]string{"m"}, someKeys...) {
				want(l, rows, key, api.View{}, false)
			}
		}
	}
	want(ab, append(slices.Clone(rows), rows[0]), "b", api.View{}, false) // what is wrong may stand behind the row
}

func wantScan(t *testing.T, l []api.Group, rows []api.Row, from, until string, n int, want ...api.View) {
	t.Helper()
	if got := model.Scan(l, rows, from, until, n); !sameViews(got, want) {
		t.Fatalf("Scan(%v, %v, %q, %q, %d) = %v, want %v", l, rows, from, until, n, got, want)
	}
}

// between tells those of views whose keys are from one on and ahead of another one, at most n.
func between(views []api.View, from, until string, n int) []api.View {
	var out []api.View
	for _, v := range views {
		if v.Key < from || until != "" && v.Key >= until {
			continue
		}
		if n > len(out) {
			out = append(out, v)
		}
	}
	return out
}

func TestScan(t *testing.T) { // P13.3
	counts := []int{math.MinInt, -1, 0, 1, 2, 5, 6, 7, 10, math.MaxInt}
	rows, views := seenRows()
	wantScan(t, ab, rows, "", "", 6, views...)
	wantScan(t, ab, rows, "", "", 7, views...)
	wantScan(t, ab, rows, "", "", 5, views[:5]...)
	wantScan(t, ab, rows, "", "", 1, views[0]) // the first row is not to be seen
	wantScan(t, ab, rows, "", "", 0)
	wantScan(t, ab, rows, "", "", -1)
	wantScan(t, ab, rows, "b", "c", 9, views[:3]...)
	wantScan(t, ab, rows, "bb", "d", 2, views[2])
	wantScan(t, ab, rows, "c", "", 1, views[3]) // rows between of which nothing is to be seen
	wantScan(t, ab, rows, "c", "d\xff", 9)
	wantScan(t, ab, rows, "b", "b", 9)
	wantScan(t, ab, rows, "d", "b", 9)
	wantScan(t, ab, rows, "\x81", "", 9)
	for _, n := range counts {
		for _, from := range someKeys {
			for _, until := range someKeys {
				wantScan(t, ab, rows, from, until, n, between(views, from, until, n)...)
				wantScan(t, ab, nil, from, until, n)
			}
		}
	}
	for _, l := range schemas {
		for _, rows := range states(l) {
			var views []api.View
			for _, r := range rows {
				if v, ok := row.View(l, r); ok {
					views = append(views, v)
				}
			}
			for _, n := range append(counts, len(views)-1, len(views), len(views)+1) {
				for _, from := range []string{"", "\x00", "k", "kj", "\x80", "\xff\xff\xff"} {
					for _, until := range []string{"", "\x01", "k", "k\x00", "kl", "\xff\x00"} {
						wantScan(t, l, rows, from, until, n, between(views, from, until, n)...)
					}
				}
				for _, x := range noSchemas {
					wantScan(t, x.Groups, rows, "", "", n)
				}
			}
		}
		for _, rows := range probe.NoStates(l) {
			for _, from := range []string{"", "a", "k", "z", "\xff"} {
				for _, n := range []int{-1, 0, 1, 9} {
					wantScan(t, l, rows, from, "", n)
					wantScan(t, l, rows, from, "k", n)
				}
			}
		}
	}
	wantScan(t, ab, append(slices.Clone(rows), rows[0]), "b", "c", 1) // what is wrong may stand behind the rows
}

func TestAnyOrder(t *testing.T) { // P13.4
	for _, l := range schemas {
		cs := probe.Changes(l)
		for i := range len(cs) - 2 {
			three := cs[i : i+3]
			want, e := model.State(l, three)
			if e != api.OK {
				t.Fatalf("State(%v) = %d", three, int(e))
			}
			for _, order := range orders(three) {
				wantState(t, l, order, want)
				wantState(t, l, slices.Concat(order, three), want)
				for i := range order {
					wantState(t, l, append(slices.Clone(order), order[i]), want)
					wantState(t, l, append([]api.Change{order[i], order[i]}, order...), want)
				}
			}
		}
		twice := slices.Concat(cs[:3], cs[:3])
		want := stateOf(l, cs[:3])
		for _, order := range orders(twice) {
			wantState(t, l, order, want)
		}
	}
}

func TestParts(t *testing.T) { // P13.5
	for _, l := range schemas {
		cs := probe.Changes(l)
		for i := range 1 << len(cs) { // every choice, and what is left; some of both
			var a, b []api.Change
			for k, c := range cs {
				if i>>k&1 == 1 {
					a = append(a, c)
				}
				if i>>k&1 == 0 || (i+k)%3 == 0 {
					b = append(b, c)
				}
			}
			stateA, _ := model.State(l, a)
			stateB, _ := model.State(l, b)
			all, e := model.State(l, slices.Concat(a, b))
			if e != api.OK || !model.Within(l, stateA, all) || !model.Within(l, stateB, all) {
				t.Fatalf("the states of %v and of %v are not within %v, %d", a, b, all, int(e))
			}
			wantMerge(t, l, stateA, stateB, all)
			wantMerge(t, l, stateB, stateA, all)
		}
	}
}

func TestKnowsAll(t *testing.T) { // P13.6
	for _, l := range schemas {
		cs := probe.Changes(l)
		keys := map[string]int{"none of theirs": 0}
		for _, c := range cs {
			for _, w := range c.Writes {
				keys[w.Key]++
			}
		}
		for size := range len(cs) + 1 {
			others := cs[:size]
			for key := range keys {
				for group := range l {
					for _, w := range []api.Write{put(key, group, "seen"), put(key, group, ""), gone(key, group)} {
						c := at(1+size%2, 13, api.Vec{5, 5}, w)
						rows, e := model.State(l, slices.Insert(slices.Clone(others), size/2, c))
						v, _ := model.Get(l, rows, key)
						i := slices.IndexFunc(v.Fields, func(f api.Field) bool { return f.Group == group })
						if e != api.OK || i < 0 != w.Gone || i >= 0 && v.Fields[i].Value != w.Value {
							t.Fatalf("behind %v is seen %v, with %v, %d", w, v, others, int(e))
						}
					}
				}
			}
		}
	}
}

// roomy tells rows with spare room behind them and behind their cells, and a check that all that memory stays as it is.
func roomy(t *testing.T, l []api.Group, rows []api.Row) ([]api.Row, func()) {
	t.Helper()
	part, stays := probe.RoomyRows(l, rows)
	return part, func() {
		t.Helper()
		if !stays() {
			t.Fatalf("the memory of %v was changed", rows)
		}
	}
}

func TestHandedInStays(t *testing.T) { // rules 4 and 8
	for _, l := range schemas {
		groups, allGroups := probe.Roomy(l, api.Group{Name: "spare", Policy: del})
		groupsBefore := slices.Clone(allGroups)
		all := slices.Concat(states(l), probe.NoStates(l))
		for i, plain := range all {
			a, stays := roomy(t, l, plain)
			other := all[(i*7+3)%len(all)]
			b, staysToo := roomy(t, l, other)
			wantGood(t, groups, a, wrong(l, plain))
			got, e := model.Merge(groups, a, b)
			want, wantE := model.Merge(l, plain, other)
			if e != wantE || !probe.SameRows(got, want) {
				t.Fatalf("Merge hangs on spare room: %v, %d, want %v, %d", got, int(e), want, int(wantE))
			}
			if model.Within(groups, a, b) != model.Within(l, plain, other) || model.Within(groups, b, a) != model.Within(l, other, plain) {
				t.Fatalf("Within hangs on spare room, of %v and %v", plain, other)
			}
			for _, key := range someKeys {
				v, ok := model.Get(groups, a, key)
				if want, wantOK := model.Get(l, plain, key); ok != wantOK || !sameView(v, want) {
					t.Fatalf("Get hangs on spare room: %v, want %v", v, want)
				}
			}
			wantScan(t, groups, a, "", "", 99, model.Scan(l, plain, "", "", 99)...)
			stays()
			staysToo()
		}
		for _, cs := range [][]api.Change{nil, probe.Changes(l), probe.NoChanges(l), slices.Concat(probe.Changes(l)[:3], probe.NoChanges(l)[:3])} {
			part, whole := probe.Roomy(cs, at(1, 99, api.Vec{9, 9}, put("spare", 0, "x")))
			var writes, before [][]api.Write
			for i := range part {
				own, all := probe.Roomy(part[i].Writes, put("spare", 0, "x"))
				part[i].Writes = own
				writes, before = append(writes, all), append(before, slices.Clone(all))
			}
			spare := len(whole) - len(part)
			got, e := model.State(groups, part)
			want, wantE := model.State(l, cs)
			if e != wantE || !probe.SameRows(got, want) {
				t.Fatalf("State hangs on spare room: %v, %d, want %v, %d", got, int(e), want, int(wantE))
			}
			for i, all := range writes {
				if !slices.Equal(all, before[i]) || !slices.Equal(part[i].Writes, cs[i].Writes) || part[i].Stamp != cs[i].Stamp || part[i].Vec != cs[i].Vec || part[i].Seq != cs[i].Seq {
					t.Fatalf("the memory of %v was changed", cs[i])
				}
			}
			for _, c := range whole[len(whole)-spare:] {
				if c.Seq != 9 || len(c.Writes) != 1 {
					t.Fatalf("spare room has become %v", c)
				}
			}
		}
		if !slices.Equal(allGroups, groupsBefore) {
			t.Fatalf("the memory of %v was changed", l)
		}
	}
}

func TestNothingIsKept(t *testing.T) { // rule 4
	for _, l := range schemas {
		for _, plain := range states(l) {
			rows, _ := roomy(t, l, plain)
			merged, _ := model.Merge(l, rows, rows)
			alone, _ := model.Merge(l, rows, nil)
			views := model.Scan(l, rows, "", "", 99)
			want := model.Scan(l, plain, "", "", 99)
			for _, r := range rows {
				clear(r.Cells)
			}
			clear(rows)
			if !probe.SameRows(merged, plain) || !probe.SameRows(alone, plain) || !sameViews(views, want) {
				t.Fatalf("what was handed out of %v hangs on what was handed in", plain)
			}
		}
		for _, plain := range probe.Changes(l) {
			cs := []api.Change{plain}
			cs[0].Writes = slices.Clone(plain.Writes)
			rows, _ := model.State(l, cs)
			clear(cs[0].Writes)
			clear(cs)
			if want := stateOf(l, []api.Change{plain}); !probe.SameRows(rows, want) {
				t.Fatalf("the state of %v has become %v", plain, rows)
			}
		}
	}
}

func TestHandedOutIsNew(t *testing.T) { // rule 4
	for _, l := range schemas {
		var views [][]api.View
		var fields [][]api.Field
		for i, plain := range states(l) {
			rows, _ := probe.Roomy(plain, api.Row{})
			other := states(l)[i/2]
			lists := [][]api.Row{rows, other}
			for range 2 {
				ab, _ := model.Merge(l, rows, other)
				ba, _ := model.Merge(l, other, rows)
				twice, _ := model.Merge(l, rows, rows)
				alone, _ := model.Merge(l, nil, rows)
				state, _ := model.State(l, probe.Changes(l)[:1+i%8])
				lists = append(lists, ab, ba, twice, alone, state)
				seen := model.Scan(l, rows, "", "", 99)
				views = append(views, seen)
				for _, v := range seen {
					got, _ := model.Get(l, rows, v.Key)
					fields = append(fields, v.Fields, got.Fields)
				}
			}
			if !probe.Apart(lists...) {
				t.Fatalf("rows handed out or in share memory, of %v", plain)
			}
			var cells [][]api.Cell
			for _, rows := range lists {
				for _, r := range rows {
					cells = append(cells, r.Cells)
				}
			}
			if !probe.Apart(cells...) {
				t.Fatalf("cells handed out or in share memory, of %v", plain)
			}
		}
		if !probe.Apart(views...) || !probe.Apart(fields...) {
			t.Fatal("views handed out share memory")
		}
	}
}
