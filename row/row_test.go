package row_test

import (
	"bytes"
	"math"
	"math/rand/v2"
	"slices"
	"strings"
	"testing"

	"gemel/api"
	"gemel/cell"
	"gemel/join"
	"gemel/policy"
	"gemel/probe"
	"gemel/row"
)

const (
	last = api.LastWins
	del  = api.DeleteWins
)

// schemas are some of 1 to MaxGroups groups, noSchemas groups that are none.
var (
	schemas   = probe.Schemas()
	noSchemas = probe.NoSchemas()
)

// ab is the chapter's schema.
var ab = schemas[2]

// key32 is a key of as many bytes as may be.
var key32 = strings.Repeat("\x00\xffé=,k", 8)[:api.MaxKey]

// goodKeys are keys that may be, longKeys ones that are too long.
var (
	goodKeys = []string{"k", "\x00", "\xff", "key", "\x00\x01\x40\x80\xc0\xff", key32}
	longKeys = []string{key32 + "w", strings.Repeat("k", 64), strings.Repeat("k", 2000)}
)

// Cells: bothCells may be by each policy, lastCells and delCells by one alone, badCells by none.
var (
	bothCells = []api.Cell{{}, put(5, 1, api.Vec{1, 0}, "x"), put(5, 1, api.Vec{1, 0}, ""), put(5, 2, api.Vec{0, 1}, "y"), put(6, 1, api.Vec{2, 2}, "\x00\xff"), put(64, 2, api.Vec{64, 16384}, strings.Repeat("v", api.MaxValue)), put(api.MaxCount, 1, api.Vec{api.MaxSeq, api.MaxSeq}, "w")}
	lastCells = []api.Cell{{Stamp: api.Stamp{N: 5, Site: 2}, Vec: api.Vec{1, 1}, Gone: true}, {Stamp: api.Stamp{N: 1 << 20, Site: 1}, Vec: api.Vec{70, 0}, Gone: true}}
	delCells  = []api.Cell{{Dead: api.Vec{1, 0}}, {Dead: api.Vec{0, 2}}, {Dead: api.Vec{3, api.MaxSeq}}, over(put(5, 1, api.Vec{1, 0}, "x"), 1, 0), over(put(6, 2, api.Vec{1, 2}, "z"), 2, 1)}
	badCells  = []api.Cell{{Gone: true}, {Value: "x"}, {Vec: api.Vec{1, 0}}, {Dead: api.Vec{-1, 0}}, {Dead: api.Vec{0, api.MaxSeq + 1}}, put(5, 3, api.Vec{1, 0}, "x"), put(5, 1, api.Vec{-1, 0}, "x"), put(5, 1, api.Vec{1, 0}, strings.Repeat("v", 65)), {Stamp: api.Stamp{N: 5, Site: 1}, Gone: true, Value: "x"}, {Stamp: api.Stamp{N: 5, Site: 1}, Gone: true, Dead: api.Vec{1, 1}}}
)

// put tells the cell of a write.
func put(n, site int, v api.Vec, value string) api.Cell {
	return api.Cell{Stamp: api.Stamp{N: n, Site: site}, Vec: v, Value: value}
}

// over tells a cell's write, with another Dead.
func over(c api.Cell, a, b int) api.Cell {
	c.Dead = api.Vec{a, b}
	return c
}

// of tells the cells that may be by a policy.
func of(policy int) []api.Cell {
	if policy == last {
		return slices.Concat(bothCells, lastCells)
	}
	return slices.Concat(bothCells, delCells)
}

// notOf tells the cells that may not be by a policy.
func notOf(policy int) []api.Cell {
	if policy == last {
		return slices.Concat(badCells, delCells)
	}
	return slices.Concat(badCells, lastCells)
}

// some tells rows of a schema that are good, of one key; always the same ones.
func some(l []api.Group, key string) []api.Row {
	out := []api.Row{probe.One(l, key, 0, api.Cell{})}
	for i, g := range l {
		for _, c := range of(g.Policy) {
			out = append(out, probe.One(l, key, i, c))
		}
	}
	r := rand.New(rand.NewPCG(61, 62))
	for range 20 {
		cells := make([]api.Cell, len(l))
		for i, g := range l {
			cells[i] = of(g.Policy)[r.IntN(len(of(g.Policy)))]
		}
		out = append(out, api.Row{Key: key, Cells: cells})
	}
	return out
}

// faulty tells rows that are not good, some of them in several things.
func faulty(l []api.Group) []api.Row {
	var out []api.Row
	for i, g := range l {
		for _, c := range notOf(g.Policy) {
			for _, key := range []string{"k", "", longKeys[0]} {
				out = append(out, probe.One(l, key, i, c))
			}
		}
	}
	for _, key := range append([]string{"", "k", key32}, longKeys...) {
		for _, c := range []api.Cell{{}, bothCells[1], badCells[0]} {
			for _, size := range []int{0, len(l) - 1, len(l) + 1, 9} {
				out = append(out, api.Row{Key: key, Cells: slices.Repeat([]api.Cell{c}, size)})
			}
		}
		if !slices.Contains(goodKeys, key) {
			out = append(out, some(l, key)[:9]...)
		}
		out = append(out, api.Row{Key: key})
	}
	return out
}

// wrong tells in another way than the program does what is wrong with a row.
func wrong(l []api.Group, r api.Row) api.Errno {
	if e := policy.Good(l); e != api.OK {
		return e
	}
	if len(r.Key) == 0 {
		return api.ErrArg
	}
	if len(r.Key) > 32 {
		return api.ErrLong
	}
	if len(r.Cells) != len(l) {
		return api.ErrRow
	}
	for i, c := range r.Cells {
		if !slices.Contains(of(l[i].Policy), c) {
			return api.ErrCell
		}
	}
	return api.OK
}

// same tells whether two rows are.
func same(a, b api.Row) bool {
	return a.Key == b.Key && slices.Equal(a.Cells, b.Cells)
}

// nothing tells whether a row is the zero one.
func nothing(r api.Row) bool {
	return r.Key == "" && len(r.Cells) == 0
}

func wantGood(t *testing.T, l []api.Group, r api.Row, want api.Errno) {
	t.Helper()
	if e := row.Good(l, r); e != want {
		t.Fatalf("Good(%.80v, %.120v) = %d, want %d", l, r, int(e), int(want))
	}
}

func TestGood(t *testing.T) { // P10.1
	for _, l := range schemas {
		for _, key := range goodKeys {
			for _, r := range some(l, key) {
				wantGood(t, l, r, api.OK)
			}
		}
		for i, g := range l {
			for _, c := range of(g.Policy) {
				wantGood(t, l, probe.One(l, "k", i, c), api.OK)
			}
			for _, c := range notOf(g.Policy) {
				wantGood(t, l, probe.One(l, "k", i, c), api.ErrCell)
				wantGood(t, l, probe.One(l, key32, i, c), api.ErrCell)
			}
		}
		for size := range 300 {
			want := map[bool]api.Errno{true: api.OK, false: api.ErrLong}[size <= 32]
			if size == 0 {
				want = api.ErrArg
			}
			wantGood(t, l, probe.One(l, strings.Repeat("\x80", size), 0, bothCells[1]), want)
			cells := make([]api.Cell, size)
			want = map[bool]api.Errno{true: api.OK, false: api.ErrRow}[size == len(l)]
			wantGood(t, l, api.Row{Key: "k", Cells: cells}, want)
		}
	}
}

func TestGoodErrors(t *testing.T) { // P10.1
	over, long := []api.Cell{{}, {}, {}}, key32+"w"
	bad := []api.Cell{{Gone: true}, {}}
	for _, x := range []struct {
		l []api.Group
		r api.Row
		e api.Errno
	}{
		{ab, api.Row{}, api.ErrArg},
		{ab, api.Row{Cells: over}, api.ErrArg}, // what comes first is told, whatever else there is
		{ab, api.Row{Cells: bad}, api.ErrArg},
		{ab, api.Row{Cells: []api.Cell{{}, {}}}, api.ErrArg},
		{ab, api.Row{Key: long}, api.ErrLong},
		{ab, api.Row{Key: long, Cells: over}, api.ErrLong},
		{ab, api.Row{Key: long, Cells: bad}, api.ErrLong},
		{ab, api.Row{Key: long, Cells: []api.Cell{{}, {}}}, api.ErrLong},
		{ab, api.Row{Key: "k"}, api.ErrRow},
		{ab, api.Row{Key: "k", Cells: over}, api.ErrRow},
		{ab, api.Row{Key: "k", Cells: bad[:1]}, api.ErrRow},
		{ab, api.Row{Key: "k", Cells: append(slices.Clone(bad), api.Cell{})}, api.ErrRow},
		{ab, api.Row{Key: "k", Cells: bad}, api.ErrCell},
		{ab, api.Row{Key: "k", Cells: []api.Cell{lastCells[0], {}}}, api.OK}, // by one policy, and by the other one
		{ab, api.Row{Key: "k", Cells: []api.Cell{{}, lastCells[0]}}, api.ErrCell},
		{ab, api.Row{Key: "k", Cells: []api.Cell{{}, delCells[0]}}, api.OK},
		{ab, api.Row{Key: "k", Cells: []api.Cell{delCells[0], {}}}, api.ErrCell},
		{ab, api.Row{Key: "k", Cells: []api.Cell{delCells[0], lastCells[0]}}, api.ErrCell},
	} {
		wantGood(t, x.l, x.r, x.e)
	}
	for _, l := range schemas {
		for _, r := range faulty(l) {
			wantGood(t, l, r, wrong(l, r))
			for _, x := range noSchemas {
				wantGood(t, x.Groups, r, x.Err)
			}
		}
	}
	for _, x := range noSchemas {
		wantGood(t, x.Groups, api.Row{}, x.Err)
		wantGood(t, x.Groups, api.Row{Key: "k", Cells: make([]api.Cell, len(x.Groups))}, x.Err)
		wantGood(t, x.Groups, api.Row{Key: longKeys[0], Cells: make([]api.Cell, len(x.Groups))}, x.Err)
		wantGood(t, x.Groups, api.Row{Key: "k", Cells: slices.Repeat(badCells[:1], len(x.Groups))}, x.Err)
	}
}

func wantNoNew(t *testing.T, l []api.Group, key string, want api.Errno) {
	t.Helper()
	if r, e := row.New(l, key); !nothing(r) || e != want {
		t.Fatalf("New(%.80v, %.40q) = %.80v, %d, want none and %d", l, key, r, int(e), int(want))
	}
}

func TestNew(t *testing.T) { // P10.1
	for _, l := range schemas {
		for _, key := range goodKeys {
			r, e := row.New(l, key)
			if e != api.OK || r.Key != key || len(r.Cells) != len(l) || slices.ContainsFunc(r.Cells, func(c api.Cell) bool { return c != api.Cell{} }) {
				t.Fatalf("New(%.80v, %q) = %.120v, %d", l, key, r, int(e))
			}
		}
		wantNoNew(t, l, "", api.ErrArg)
		for _, key := range longKeys {
			wantNoNew(t, l, key, api.ErrLong)
		}
	}
	for _, x := range noSchemas {
		for _, key := range slices.Concat(goodKeys, longKeys, []string{""}) {
			wantNoNew(t, x.Groups, key, x.Err)
		}
	}
}

func wantWrite(t *testing.T, l []api.Group, r api.Row, group int, c api.Cell, want api.Row) {
	t.Helper()
	if got, e := row.Write(l, r, group, c); !same(got, want) || e != api.OK {
		t.Fatalf("Write(%.80v, %.120v, %d, %.80v) = %.120v, %d, want %.120v", l, r, group, c, got, int(e), want)
	}
}

func wantNoWrite(t *testing.T, l []api.Group, r api.Row, group int, c api.Cell, want api.Errno) {
	t.Helper()
	if got, e := row.Write(l, r, group, c); !nothing(got) || e != want {
		t.Fatalf("Write(%.80v, %.120v, %d, %.80v) = %.120v, %d, want none and %d", l, r, group, c, got, int(e), int(want))
	}
}

func TestWrite(t *testing.T) { // P10.2
	x, y := put(5, 1, api.Vec{1, 0}, "x"), put(7, 2, api.Vec{1, 2}, "y")
	bare := api.Row{Key: "k", Cells: make([]api.Cell, 2)}
	wantWrite(t, ab, bare, 0, x, api.Row{Key: "k", Cells: []api.Cell{x, {}}})
	wantWrite(t, ab, bare, 1, x, api.Row{Key: "k", Cells: []api.Cell{{}, x}})
	wantWrite(t, ab, bare, 1, delCells[1], api.Row{Key: "k", Cells: []api.Cell{{}, delCells[1]}})
	wantWrite(t, ab, bare, 0, lastCells[0], api.Row{Key: "k", Cells: []api.Cell{lastCells[0], {}}})
	xy := api.Row{Key: key32, Cells: []api.Cell{x, y}}
	wantWrite(t, ab, xy, 0, y, api.Row{Key: key32, Cells: []api.Cell{y, y}})
	wantWrite(t, ab, xy, 1, x, xy) // cells that add nothing
	wantWrite(t, ab, xy, 0, x, xy)
	wantWrite(t, ab, xy, 0, api.Cell{}, xy)
	wantWrite(t, ab, xy, 1, api.Cell{}, xy)
	wantWrite(t, ab, xy, 1, api.Cell{Dead: api.Vec{3, 4}}, api.Row{Key: key32, Cells: []api.Cell{x, over(y, 3, 4)}})
	for _, l := range schemas {
		for _, r := range some(l, "key") {
			for i, g := range l {
				for _, c := range of(g.Policy) {
					want := api.Row{Key: "key", Cells: slices.Clone(r.Cells)}
					want.Cells[i] = join.Join(c, want.Cells[i])
					wantWrite(t, l, r, i, c, want)
				}
			}
		}
	}
}

// noGroups are numbers of no group of a schema.
func noGroups(l []api.Group) []int {
	return []int{-1, len(l), len(l) + 1, api.MaxGroups, 1 << 32, -1 << 32, math.MinInt, math.MaxInt}
}

func TestWriteErrors(t *testing.T) { // P10.2
	for _, l := range schemas {
		bad := notOf(l[0].Policy)
		for _, r := range append(some(l, "k")[:20], faulty(l)...) {
			e := wrong(l, r)
			for _, group := range append(noGroups(l), 0, len(l)-1) {
				none := slices.Contains(noGroups(l), group)
				for _, c := range append(bad, bothCells[1], badCells[2]) {
					switch { // in this order, whatever else there is
					case e != api.OK:
						wantNoWrite(t, l, r, group, c, e)
					case none:
						wantNoWrite(t, l, r, group, c, api.ErrGroup)
					case !slices.Contains(of(l[group].Policy), c):
						wantNoWrite(t, l, r, group, c, api.ErrCell)
					}
				}
			}
			for _, x := range noSchemas {
				wantNoWrite(t, x.Groups, r, 0, bothCells[1], x.Err)
				wantNoWrite(t, x.Groups, r, -1, badCells[0], x.Err)
			}
		}
		for i, g := range l {
			for _, c := range notOf(g.Policy) {
				wantNoWrite(t, l, probe.One(l, "k", 0, api.Cell{}), i, c, api.ErrCell)
			}
		}
	}
}

func wantJoin(t *testing.T, l []api.Group, a, b, want api.Row) {
	t.Helper()
	if got, e := row.Join(l, a, b); !same(got, want) || e != api.OK {
		t.Fatalf("Join(%.80v, %.120v, %.120v) = %.120v, %d, want %.120v", l, a, b, got, int(e), want)
	}
}

func wantNoJoin(t *testing.T, l []api.Group, a, b api.Row, want api.Errno) {
	t.Helper()
	if got, e := row.Join(l, a, b); !nothing(got) || e != want {
		t.Fatalf("Join(%.80v, %.120v, %.120v) = %.120v, %d, want none and %d", l, a, b, got, int(e), int(want))
	}
}

func TestJoin(t *testing.T) { // P10.2
	x, y := put(5, 1, api.Vec{1, 0}, "x"), put(7, 2, api.Vec{1, 2}, "y")
	wantJoin(t, ab, api.Row{Key: "k", Cells: []api.Cell{x, y}}, api.Row{Key: "k", Cells: []api.Cell{y, x}}, api.Row{Key: "k", Cells: []api.Cell{y, y}})
	wantJoin(t, ab, api.Row{Key: "k", Cells: []api.Cell{x, {}}}, api.Row{Key: "k", Cells: []api.Cell{{}, over(x, 0, 3)}}, api.Row{Key: "k", Cells: []api.Cell{x, over(x, 0, 3)}})
	wantJoin(t, ab, api.Row{Key: key32, Cells: []api.Cell{lastCells[0], over(x, 3, 1)}}, api.Row{Key: key32, Cells: []api.Cell{x, over(y, 1, 3)}}, api.Row{Key: key32, Cells: []api.Cell{lastCells[0], over(y, 3, 3)}})
	for _, l := range schemas {
		rows := some(l, "k")
		for _, a := range rows {
			for _, b := range rows {
				want := api.Row{Key: "k"}
				for i := range l {
					want.Cells = append(want.Cells, join.Join(a.Cells[i], b.Cells[i]))
				}
				wantJoin(t, l, a, b, want)
			}
		}
	}
}

func TestJoinErrors(t *testing.T) { // P10.2
	for _, l := range schemas {
		good, other := probe.One(l, "k", 0, bothCells[1]), probe.One(l, "m", 0, bothCells[1])
		bad := faulty(l)
		for i, r := range bad {
			e := wrong(l, r)
			wantNoJoin(t, l, r, good, e)
			wantNoJoin(t, l, good, r, e)
			wantNoJoin(t, l, other, r, e) // two keys as well: Good's errors go ahead
			wantNoJoin(t, l, r, other, e)
			wantNoJoin(t, l, r, bad[(i*7+3)%len(bad)], e) // a's error goes ahead of b's
			wantNoJoin(t, l, r, r, e)
			for _, x := range noSchemas {
				wantNoJoin(t, x.Groups, r, good, x.Err)
				wantNoJoin(t, x.Groups, good, r, x.Err)
			}
		}
		wantNoJoin(t, l, good, other, api.ErrRow)
		wantNoJoin(t, l, other, good, api.ErrRow)
		for i, a := range goodKeys {
			for k, b := range goodKeys {
				if i != k {
					wantNoJoin(t, l, probe.One(l, a, 0, api.Cell{}), probe.One(l, b, 0, api.Cell{}), api.ErrRow)
				}
			}
		}
		wantNoJoin(t, l, probe.One(l, "k", 0, api.Cell{}), probe.One(l, "k\x00", 0, api.Cell{}), api.ErrRow)
		for _, x := range noSchemas {
			wantNoJoin(t, x.Groups, good, good, x.Err)
			wantNoJoin(t, x.Groups, good, other, x.Err)
			wantNoJoin(t, x.Groups, api.Row{}, api.Row{}, x.Err)
		}
	}
}

func TestBare(t *testing.T) { // P10.3
	for _, key := range append([]string{"", "k"}, longKeys...) {
		for size := range 20 {
			cells := make([]api.Cell, size)
			if r := (api.Row{Key: key, Cells: cells}); !row.Bare(r) {
				t.Fatalf("%d zero cells are not bare", size)
			}
			for i := range cells {
				for _, c := range slices.Concat(bothCells[1:], lastCells, delCells, badCells, []api.Cell{{Stamp: api.Stamp{N: 1}}, {Stamp: api.Stamp{Site: -1}}, {Vec: api.Vec{0, -1}}, {Dead: api.Vec{0, 1}}}) {
					cells[i] = c
					if row.Bare(api.Row{Key: key, Cells: cells}) {
						t.Fatalf("%d cells are bare, although one of them is %.80v", size, c)
					}
					cells[i] = api.Cell{}
				}
			}
		}
		if !row.Bare(api.Row{Key: key}) {
			t.Fatal("a row without a cell is not bare")
		}
	}
}

func TestKnown(t *testing.T) { // P10.3
	for _, x := range []struct {
		cells []api.Cell
		want  api.Vec
	}{
		{nil, api.Vec{}},
		{[]api.Cell{}, api.Vec{}},
		{[]api.Cell{{}, {}}, api.Vec{}},
		{[]api.Cell{{Vec: api.Vec{1, 2}}}, api.Vec{1, 2}},
		{[]api.Cell{{}, {Dead: api.Vec{1, 2}}}, api.Vec{1, 2}},
		{[]api.Cell{put(5, 1, api.Vec{3, 1}, "x"), over(put(5, 1, api.Vec{1, 2}, "x"), 0, 4)}, api.Vec{3, 4}},
		{[]api.Cell{over(put(5, 1, api.Vec{1, 2}, "x"), 0, 4), {}, {Vec: api.Vec{3, 1}}}, api.Vec{3, 4}},
		{[]api.Cell{{Dead: api.Vec{9, 0}}, {Dead: api.Vec{0, 9}}, {Dead: api.Vec{5, 5}}}, api.Vec{9, 9}},
		{[]api.Cell{{Vec: api.Vec{-1, 2}}, {Dead: api.Vec{-1, -1}}}, api.Vec{0, 2}}, // cells that may not be: a join takes 0 for what is below it
		{[]api.Cell{{Gone: true, Vec: api.Vec{math.MinInt, -1}}}, api.Vec{}},
		{[]api.Cell{{Value: "x", Vec: api.Vec{api.MaxSeq + 1, 0}}, {Dead: api.Vec{7, math.MaxInt}}}, api.Vec{api.MaxSeq + 1, math.MaxInt}},
	} {
		for _, key := range append([]string{"", "k"}, longKeys...) {
			if got := row.Known(api.Row{Key: key, Cells: x.cells}); got != x.want {
				t.Fatalf("Known of %.120v is %v, want %v", x.cells, got, x.want)
			}
		}
	}
	for _, l := range schemas {
		for _, r := range append(some(l, "k"), faulty(l)...) {
			var want api.Vec
			for _, c := range r.Cells {
				for i := range want {
					want[i] = max(want[i], c.Vec[i], c.Dead[i])
				}
			}
			if got := row.Known(r); got != want {
				t.Fatalf("Known(%.120v) = %v, want %v", r, got, want)
			}
		}
	}
}

func wantView(t *testing.T, l []api.Group, r api.Row, want ...api.Field) {
	t.Helper()
	v, ok := row.View(l, r)
	if v.Key != r.Key || !slices.Equal(v.Fields, want) || !ok {
		t.Fatalf("View(%.80v, %.120v) = %.120v, %t, want %.120v", l, r, v, ok, want)
	}
}

func wantNoView(t *testing.T, l []api.Group, r api.Row) {
	t.Helper()
	if v, ok := row.View(l, r); v.Key != "" || len(v.Fields) > 0 || ok {
		t.Fatalf("View(%.80v, %.120v) = %.120v, %t, want nothing", l, r, v, ok)
	}
}

func TestView(t *testing.T) { // P10.3
	x := put(5, 1, api.Vec{1, 0}, "x")
	for _, l := range schemas {
		all := api.Row{Key: key32}
		var fields []api.Field
		for i := range l {
			wantView(t, l, probe.One(l, "k", i, x), api.Field{Group: i, Value: "x"})
			wantView(t, l, probe.One(l, "\xff", i, put(5, 1, api.Vec{}, "")), api.Field{Group: i})
			value := strings.Repeat("v", i)
			all.Cells, fields = append(all.Cells, put(9-i, 2, api.Vec{}, value)), append(fields, api.Field{Group: i, Value: value})
		}
		wantView(t, l, all, fields...)
		wantNoView(t, l, probe.One(l, "k", 0, api.Cell{}))
		for _, r := range some(l, "key") {
			var want []api.Field
			for i, c := range r.Cells {
				if c.Stamp.N > 0 && !c.Gone && c.Vec[0] >= c.Dead[0] && c.Vec[1] >= c.Dead[1] {
					want = append(want, api.Field{Group: i, Value: c.Value})
				}
			}
			if len(want) > 0 {
				wantView(t, l, r, want...)
			} else {
				wantNoView(t, l, r)
			}
		}
	}
	wantView(t, ab, api.Row{Key: "k", Cells: []api.Cell{lastCells[0], x}}, api.Field{Group: 1, Value: "x"})
	wantView(t, ab, api.Row{Key: "k", Cells: []api.Cell{x, over(x, 0, 1)}}, api.Field{Group: 0, Value: "x"})
	wantView(t, ab, api.Row{Key: "k", Cells: []api.Cell{{}, over(x, 1, 0)}}, api.Field{Group: 1, Value: "x"})
	wantNoView(t, ab, api.Row{Key: "k", Cells: []api.Cell{lastCells[0], over(x, 0, 1)}})
	wantNoView(t, ab, api.Row{Key: "k", Cells: []api.Cell{{}, {Dead: api.Vec{1, 1}}}})
}

func TestViewOfBad(t *testing.T) { // P10.3
	x := put(5, 1, api.Vec{1, 0}, "x")
	for _, l := range schemas {
		for _, r := range faulty(l) {
			wantNoView(t, l, r)
		}
		full := api.Row{Key: "k", Cells: slices.Repeat([]api.Cell{x}, len(l))}
		for i, g := range l {
			for _, c := range notOf(g.Policy) { // one cell that may not be hides all others
				r := api.Row{Key: "k", Cells: slices.Clone(full.Cells)}
				r.Cells[i] = c
				wantNoView(t, l, r)
			}
		}
		for _, key := range append([]string{""}, longKeys...) {
			wantNoView(t, l, api.Row{Key: key, Cells: full.Cells})
		}
		wantNoView(t, l, api.Row{Key: "k", Cells: append(slices.Clone(full.Cells), x)})
		wantNoView(t, l, api.Row{Key: "k", Cells: full.Cells[1:]})
		for _, bad := range noSchemas {
			wantNoView(t, bad.Groups, full)
			wantNoView(t, bad.Groups, api.Row{Key: "k", Cells: slices.Repeat([]api.Cell{x}, len(bad.Groups))})
		}
	}
}

// bytesOf tells what the bytes of a row that is good are to be.
func bytesOf(l []api.Group, r api.Row) []byte {
	out := append(probe.Laid(len(r.Key)), r.Key...)
	for i, c := range r.Cells {
		out = append(out, cell.Put(nil, l[i].Policy, c)...)
	}
	return out
}

func wantPut(t *testing.T, ahead string, l []api.Group, r api.Row, want string) {
	t.Helper()
	if got := row.Put([]byte(ahead), l, r); string(got) != ahead+want {
		t.Fatalf("Put(%q, %.80v, %.120v) = %x, want %x behind it", ahead, l, r, got, want)
	}
}

func TestPut(t *testing.T) { // P10.4
	bare := api.Row{Key: "k", Cells: make([]api.Cell, 2)}
	x := put(6, 2, api.Vec{0, 1}, "x")
	for _, ahead := range []string{"", "z", "\x01", "some bytes"} {
		wantPut(t, ahead, ab, bare, "\x01\x6b\x00\x00") // the chapter's example
		wantPut(t, ahead, schemas[0], api.Row{Key: "k", Cells: []api.Cell{x}}, "\x01k\x01\x0d\x00\x01\x01x")
		wantPut(t, ahead, ab, api.Row{Key: "key", Cells: []api.Cell{x, {Dead: api.Vec{2, 1}}}}, "\x03key\x01\x0d\x00\x01\x01x\x04\x02\x01")
		wantPut(t, ahead, schemas[3], api.Row{Key: "key", Cells: []api.Cell{{Dead: api.Vec{2, 1}}, x}}, "\x03key\x04\x02\x01\x01\x0d\x00\x01\x01x")
		wantPut(t, ahead, ab, api.Row{Key: key32, Cells: []api.Cell{{Stamp: x.Stamp, Vec: x.Vec, Gone: true}, over(x, 2, 1)}}, "\x20"+key32+"\x03\x0d\x00\x01\x05\x0d\x00\x01\x01x\x02\x01")
		wantPut(t, ahead, schemas[5], probe.One(schemas[5], "\x00", 3, x), "\x01\x00\x00\x00\x00\x01\x0d\x00\x01\x01x")
		for _, l := range schemas {
			for _, key := range goodKeys {
				for _, r := range some(l, key) {
					wantPut(t, ahead, l, r, string(bytesOf(l, r)))
				}
			}
		}
	}
	if got := row.Put(nil, ab, bare); string(got) != "\x01\x6b\x00\x00" {
		t.Fatalf("Put(nil, ..) = %x", got)
	}
}

func TestPutOfBad(t *testing.T) { // P10.4
	for _, ahead := range []string{"", "z", "some bytes"} {
		for _, l := range schemas {
			for _, r := range faulty(l) {
				wantPut(t, ahead, l, r, "")
			}
			for _, x := range noSchemas {
				wantPut(t, ahead, x.Groups, probe.One(l, "k", 0, bothCells[1]), "")
				wantPut(t, ahead, x.Groups, api.Row{}, "")
				wantPut(t, ahead, x.Groups, api.Row{Key: "k", Cells: make([]api.Cell, len(x.Groups))}, "")
			}
		}
	}
	if got := row.Put(nil, ab, api.Row{}); len(got) > 0 {
		t.Fatalf("Put of a row that is not good = %x", got)
	}
}

func wantGet(t *testing.T, b []byte, l []api.Group, want api.Row, size int) {
	t.Helper()
	if r, n, e := row.Get(b, l); !same(r, want) || n != size || e != api.OK {
		t.Fatalf("Get(%.60x, %.80v) = %.120v, %d, %d, want %.120v, %d", b, l, r, n, int(e), want, size)
	}
}

func wantNoRow(t *testing.T, b []byte, l []api.Group, want api.Errno) {
	t.Helper()
	if r, n, e := row.Get(b, l); !nothing(r) || n != 0 || e != want {
		t.Fatalf("Get(%.60x, %.80v) = %.120v, %d, %d, want none and %d", b, l, r, n, int(e), int(want))
	}
}

func TestGet(t *testing.T) { // P10.4 and P10.7
	wantGet(t, []byte("\x01\x6b\x00\x00"), ab, api.Row{Key: "k", Cells: make([]api.Cell, 2)}, 4)
	wantGet(t, []byte("\x03key\x04\x02\x01\x01\x0d\x00\x01\x01xyz"), schemas[3], api.Row{Key: "key", Cells: []api.Cell{{Dead: api.Vec{2, 1}}, put(6, 2, api.Vec{0, 1}, "x")}}, 13)
	for _, l := range schemas {
		for _, key := range goodKeys {
			for _, r := range some(l, key) {
				b := bytesOf(l, r)
				for _, behind := range []string{"", "\x00", "\x01k\x00\x00", "\xff", "whatever there is"} {
					wantGet(t, append(slices.Clone(b), behind...), l, r, len(b))
				}
				got := row.Put(nil, l, r)
				wantGet(t, got, l, r, len(got))
			}
		}
	}
}

func TestGetCut(t *testing.T) { // P10.4
	for _, l := range schemas {
		for _, key := range goodKeys {
			for _, r := range some(l, key) {
				b := bytesOf(l, r)
				for have := range len(b) { // the missing bytes stand behind the list's length
					wantNoRow(t, b[:have], l, api.ErrRow)
				}
			}
		}
		wantNoRow(t, nil, l, api.ErrRow)
	}
}

func TestGetErrors(t *testing.T) { // P10.4
	zeros := make([]byte, 100)
	for _, l := range schemas {
		for _, ahead := range []string{"\x00", "\x40\x01k", "\x80\x00\x00\x01k", "\x40\x00", "\xff", "\x40"} { // no key, and lengths that are none
			wantNoRow(t, []byte(ahead), l, api.ErrRow)
			wantNoRow(t, append([]byte(ahead), zeros...), l, api.ErrRow)
		}
		for _, size := range []int{33, 34, 63, 64, 16384, 1 << 30, api.MaxNum} { // keys that are too long
			wantNoRow(t, append(probe.Laid(size), zeros...), l, api.ErrRow)
			if size < 20000 {
				wantNoRow(t, slices.Concat(probe.Laid(size), bytes.Repeat([]byte("k"), size), zeros), l, api.ErrRow)
			}
		}
		for i := range l {
			for _, s := range []string{"\x02", "\x06\x02\x01", "\x07", "\x08", "\x40\x00", "\x40\x01\x0d\x00\x01\x01x", "\x01\x00\x00\x00\x00", "\x01\x01\x00\x01\x01x", "\x04\x00\x00", "\x01\x0d\x00\x01\x40\x41", "\xff"} { // cells that are none
				wantNoRow(t, slices.Concat([]byte("\x01k"), zeros[:i], []byte(s), zeros), l, api.ErrRow)
			}
		}
		for _, x := range noSchemas { // policy's error goes ahead of those of bytes
			for _, b := range [][]byte{nil, {0}, {0xff}, []byte("\x01k"), []byte("\x01k\x00\x00"), append([]byte("\x01k"), zeros...)} {
				wantNoRow(t, b, x.Groups, x.Err)
			}
		}
	}
}

func TestGetByPolicy(t *testing.T) { // P10.4: a cell that may not be of its group's policy
	zeros := make([]byte, 10)
	for _, l := range schemas {
		for i, g := range l {
			bad, other := lastCells, last
			if g.Policy == last {
				bad, other = delCells, del
			}
			for _, c := range bad {
				b := slices.Concat([]byte("\x01k"), zeros[:i], cell.Put(nil, other, c), zeros[:len(l)-1-i])
				wantNoRow(t, b, l, api.ErrRow)
				wantNoRow(t, append(b, zeros...), l, api.ErrRow)
			}
		}
	}
}

func TestBackOfBytes(t *testing.T) { // P10.7: what is got of any bytes is put as it was
	r := rand.New(rand.NewPCG(63, 64))
	taken, refused := 0, 0
	for range 30 {
		for _, l := range schemas {
			for _, x := range some(l, "key") {
				b := append(bytesOf(l, x), 0, 0, 0)
				b[r.IntN(min(len(b), 16))] = byte(r.Uint32() >> r.IntN(9))
				got, n, e := row.Get(b, l)
				if e != api.OK {
					refused++
					wantNoRow(t, b, l, api.ErrRow)
					continue
				}
				taken++
				if row.Good(l, got) != api.OK || n > len(b) || !bytes.Equal(row.Put(nil, l, got), b[:n]) {
					t.Fatalf("%x is got as %.120v, %d, and put as %x", b, got, n, row.Put(nil, l, got))
				}
			}
		}
	}
	if taken < 1000 || refused < 1000 {
		t.Fatalf("%d are taken, %d refused", taken, refused)
	}
}

// must tells the join of rows, one behind the other.
func must(t *testing.T, l []api.Group, rows ...api.Row) api.Row {
	t.Helper()
	out := rows[0]
	for _, r := range rows[1:] {
		var e api.Errno
		if out, e = row.Join(l, out, r); e != api.OK {
			t.Fatalf("Join of %.120v: %d", rows, int(e))
		}
	}
	return out
}

func TestLattice(t *testing.T) { // P10.5
	r := rand.New(rand.NewPCG(65, 66))
	for _, l := range schemas {
		rows := some(l, "k")
		pick := func() api.Row { return rows[r.IntN(len(rows))] }
		for range 300 {
			a, b, c := pick(), pick(), pick()
			all := must(t, l, a, b, c)
			for _, o := range [][3]api.Row{{a, b, c}, {a, c, b}, {b, a, c}, {b, c, a}, {c, a, b}, {c, b, a}} {
				wantJoin(t, l, must(t, l, o[0], o[1]), o[2], all)
				wantJoin(t, l, o[0], must(t, l, o[1], o[2]), all)
				wantJoin(t, l, must(t, l, o[0], o[1]), must(t, l, o[1], o[2]), all)
				wantJoin(t, l, all, o[0], all)
				wantJoin(t, l, o[0], all, all)
			}
			wantJoin(t, l, a, a, a)
			wantJoin(t, l, all, all, all)
			wantJoin(t, l, a, probe.One(l, "k", 0, api.Cell{}), a)
			wantGood(t, l, all, api.OK)
		}
	}
}

func TestApart(t *testing.T) { // P10.6
	r := rand.New(rand.NewPCG(67, 68))
	kept := 0
	for _, l := range schemas {
		rows := some(l, "k")
		for range 500 {
			a, b := rows[r.IntN(len(rows))], rows[r.IntN(len(rows))]
			i := r.IntN(len(l))
			w, e := row.Write(l, a, i, b.Cells[i])
			j, e2 := row.Join(l, a, b)
			if e != api.OK || e2 != api.OK || w.Cells[i] != j.Cells[i] {
				t.Fatalf("%.120v and %.120v: %d, %d", a, b, int(e), int(e2))
			}
			for k := range l {
				if k != i && w.Cells[k] != a.Cells[k] {
					t.Fatalf("Write to group %d of %.120v has changed group %d: %.120v", i, a, k, w)
				}
				if join.Within(b.Cells[k], a.Cells[k]) {
					kept++
					if j.Cells[k] != a.Cells[k] {
						t.Fatalf("Join of %.120v and %.120v has changed group %d: %.120v", a, b, k, j)
					}
				}
			}
		}
	}
	if kept < 1000 {
		t.Fatalf("only %d cells are within the other one", kept)
	}
}

func TestHandedInStays(t *testing.T) { // rules 4 and 8
	late := over(put(99, 2, api.Vec{9, 9}, "spare"), 9, 9)
	for _, spareCell := range []api.Cell{{}, late, badCells[0]} {
		for _, spareGroup := range []api.Group{{Name: "more", Policy: last}, {}, {Name: "a", Policy: del}} {
			for _, l := range schemas {
				groups, allGroups := probe.Roomy(l, spareGroup)
				groupsBefore := slices.Clone(allGroups)
				for _, r := range append(some(l, "k")[:30], faulty(l)[:30]...) {
					cells, allCells := probe.Roomy(r.Cells, spareCell)
					before := slices.Clone(allCells)
					checkAlike(t, groups, l, api.Row{Key: r.Key, Cells: cells}, r)
					if !slices.Equal(allCells, before) || !slices.Equal(allGroups, groupsBefore) {
						t.Fatalf("the memory of %.80v or of %.120v was changed", l, r)
					}
				}
			}
		}
	}
	for _, s := range []string{"", "\x00", "\x01k", "\x01k\x00", "\x01k\x00\x00", "\x01k\x01\x0d\x00\x01\x01", "\x01k\x00\x04\x02", "\x02k"} {
		for _, spare := range []byte{0, 1, 4, 'x', 0xff} {
			b, whole := probe.Roomy([]byte(s), spare)
			before := slices.Clone(whole)
			want, size, wantE := row.Get([]byte(s), ab)
			if r, n, e := row.Get(b, ab); !same(r, want) || n != size || e != wantE || !bytes.Equal(whole, before) {
				t.Fatalf("Get(%x) = %.120v, %d, %d, its memory %x", s, r, n, int(e), whole)
			}
			row.Put(b, ab, api.Row{Key: "k", Cells: make([]api.Cell, 2)})
			row.Put(b, ab, api.Row{})
			if !bytes.Equal(whole, before) {
				t.Fatalf("Put has changed the memory of %x", s)
			}
		}
	}
}

// checkAlike wants that what is answered of a schema and a row with spare room is what is answered of the same ones without.
func checkAlike(t *testing.T, l, clipped []api.Group, r, bare api.Row) {
	t.Helper()
	clipped, bare.Cells = slices.Clip(slices.Clone(clipped)), slices.Clip(slices.Clone(bare.Cells))
	wantGood(t, l, r, row.Good(clipped, bare))
	full := probe.One(clipped, "k", len(l)-1, bothCells[4])
	n1, e1 := row.New(l, r.Key)
	n2, e2 := row.New(clipped, bare.Key)
	w1, e3 := row.Write(l, r, len(l)-1, bothCells[3])
	w2, e4 := row.Write(clipped, bare, len(l)-1, bothCells[3])
	j1, e5 := row.Join(l, r, full)
	j2, e6 := row.Join(clipped, bare, full)
	j3, e7 := row.Join(l, full, r)
	v1, ok1 := row.View(l, r)
	v2, ok2 := row.View(clipped, bare)
	if !same(n1, n2) || !same(w1, w2) || !same(j1, j2) || !same(j1, j3) || e1 != e2 || e3 != e4 || e5 != e6 || e5 != e7 {
		t.Fatalf("New, Write or Join of %.120v hang on what stands behind its length", r)
	}
	if row.Bare(r) != row.Bare(bare) || row.Known(r) != row.Known(bare) || v1.Key != v2.Key || !slices.Equal(v1.Fields, v2.Fields) || ok1 != ok2 {
		t.Fatalf("Bare, Known or View of %.120v hang on what stands behind its length", r)
	}
	b := row.Put(nil, clipped, bare)
	got, n, e := row.Get(b, l)
	want, size, wantE := row.Get(b, clipped)
	if !bytes.Equal(row.Put(nil, l, r), b) || !same(got, want) || n != size || e != wantE {
		t.Fatalf("Put or Get of %.120v hang on what stands behind its length", r)
	}
	if e := row.Good(l, r); e != api.OK {
		wantNoWrite(t, l, r, len(l), bothCells[0], e)
	} else {
		wantNoWrite(t, l, r, len(l), bothCells[0], api.ErrGroup)
	}
}

func TestHandedOutIsNew(t *testing.T) { // rule 4
	for _, l := range schemas {
		for _, r := range some(l, "k") {
			part, whole := probe.Roomy(r.Cells, badCells[0])
			in := api.Row{Key: r.Key, Cells: part}
			lists := [][]api.Cell{whole}
			add := func(r api.Row, e api.Errno) {
				lists = append(lists, r.Cells)
				if e != api.OK {
					t.Fatalf("%.120v: %d", r, int(e))
				}
			}
			bare := probe.One(l, "k", 0, api.Cell{})
			lists = append(lists, bare.Cells)
			for range 2 {
				add(row.New(l, "k"))
				add(row.Write(l, in, 0, api.Cell{}))
				add(row.Write(l, in, len(l)-1, bothCells[6]))
				add(row.Join(l, in, in))
				add(row.Join(l, in, bare))
				add(row.Join(l, bare, in))
				got, _, e := row.Get(bytesOf(l, r), l)
				add(got, e)
			}
			if !probe.Apart(lists...) {
				t.Fatalf("cells handed out or in share memory, of %.80v and %.120v", l, r)
			}
			v1, _ := row.View(l, in)
			v2, _ := row.View(l, in)
			if !probe.Apart(v1.Fields, v2.Fields) {
				t.Fatalf("fields handed out share memory, of %.80v and %.120v", l, r)
			}
		}
		for _, r := range append(some(l, "k")[:10], faulty(l)[:10]...) {
			for _, s := range []string{"", "x", "some bytes"} {
				b, whole := probe.Roomy([]byte(s), 1)
				if !probe.Apart(whole, row.Put(b, l, r), row.Put(b, l, r), row.Put(whole, l, r), row.Put(whole, l, r)) {
					t.Fatalf("bytes handed out or in share memory, with %q and %.120v", s, r)
				}
			}
		}
	}
	b := []byte("\x01k\x00\x00")
	r, _, _ := row.Get(b, ab)
	b[1] = 'm'
	if r.Key != "k" {
		t.Fatalf("a key that was got has become %q", r.Key)
	}
}
