package change_test

import (
	"bytes"
	"math"
	"math/rand/v2"
	"slices"
	"strings"
	"testing"

	"gemel/api"
	"gemel/change"
	"gemel/probe"
	"gemel/row"
)

const (
	last = api.LastWins
	del  = api.DeleteWins
)

// schemas are some of 1 to MaxGroups groups, noSchemas groups that are none.
var (
	schemas   = probe.Schemas()
	noSchemas = probe.NoSchemas()
)

// ab is the schema of the examples, key32 and value64 are as long as may be.
var (
	ab      = schemas[2]
	key32   = strings.Repeat("\x00\xffé=,k", 8)[:api.MaxKey]
	value64 = strings.Repeat("v\x00", 32)
)

// put tells a write of a value.
func put(key string, group int, value string) api.Write {
	return api.Write{Key: key, Group: group, Value: value}
}

// gone tells a write that is a delete.
func gone(key string, group int) api.Write {
	return api.Write{Key: key, Group: group, Gone: true}
}

// of tells a change that may be, if its writes may.
func of(writes ...api.Write) api.Change {
	return api.Change{Site: 2, Seq: 3, Stamp: api.Stamp{N: 6, Site: 2}, Vec: api.Vec{70, 3}, Writes: writes}
}

// with tells a change with something else.
func with(c api.Change, do func(c *api.Change)) api.Change {
	c.Writes = slices.Clone(c.Writes)
	do(&c)
	return c
}

// same tells whether two changes are.
func same(a, b api.Change) bool {
	return a.Site == b.Site && a.Seq == b.Seq && a.Stamp == b.Stamp && a.Vec == b.Vec && slices.Equal(a.Writes, b.Writes)
}

// places tells places of a schema in order, more than a change has writes.
func places(l []api.Group) []api.Write {
	var out []api.Write
	for _, key := range []string{"\x00", "a", "a\x00", "aa", "k", "\x80", key32, "\xff", "\xff\xff", "\xff\xff\xff"} {
		for group := range l {
			out = append(out, api.Write{Key: key, Group: group})
		}
	}
	slices.SortFunc(out, func(a, b api.Write) int { return 2*strings.Compare(a.Key, b.Key) + min(1, max(-1, a.Group-b.Group)) })
	return out
}

// some tells changes by a schema that may be; always the same ones.
func some(l []api.Group) []api.Change {
	r := rand.New(rand.NewPCG(121, 122))
	values := []string{"", "x", "\x00\xff", "a value", value64}
	heads := []api.Change{
		{Site: 1, Seq: 1, Stamp: api.Stamp{N: 1, Site: 1}, Vec: api.Vec{1, 0}},
		{Site: 2, Seq: 1, Stamp: api.Stamp{N: 31, Site: 2}, Vec: api.Vec{0, 1}},
		{Site: 1, Seq: 64, Stamp: api.Stamp{N: 8191, Site: 1}, Vec: api.Vec{64, 16384}},
		{Site: 2, Seq: 1 << 30, Stamp: api.Stamp{N: 1 << 40, Site: 2}, Vec: api.Vec{1 << 14, 1 << 30}},
		{Site: 1, Seq: api.MaxSeq, Stamp: api.Stamp{N: api.MaxCount, Site: 1}, Vec: api.Vec{api.MaxSeq, api.MaxSeq}},
	}
	var out []api.Change
	for _, head := range heads {
		for count := 1; count <= api.MaxWrites; count++ {
			c := head
			for _, i := range slices.Sorted(slices.Values(r.Perm(len(places(l)))[:count])) {
				w := places(l)[i]
				if w.Gone = r.IntN(3) == 0; !w.Gone {
					w.Value = values[r.IntN(len(values))]
				}
				c.Writes = append(c.Writes, w)
			}
			out = append(out, c)
		}
	}
	return out
}

// faulty tells changes that may not be by any schema, most of them in one thing alone.
func faulty() []api.Change {
	c := of(put("a", 0, "x"), gone("k", 0), put("m", 0, "y"))
	var out []api.Change
	add := func(do func(c *api.Change)) { out = append(out, with(c, do)) }
	for _, site := range []int{math.MinInt, -1, 0, 1, 3, 4, 1<<32 + 2, math.MaxInt} {
		add(func(c *api.Change) { c.Site = site })
	}
	for _, site := range []int{math.MinInt, -1, 0, 3, math.MaxInt} { // the stamp is of no site either
		add(func(c *api.Change) { c.Site, c.Stamp.Site = site, site })
	}
	for _, seq := range []int{math.MinInt, -1, 0, 1, 2, 4, 70, api.MaxSeq, api.MaxSeq + 1, math.MaxInt} {
		add(func(c *api.Change) { c.Seq = seq })
	}
	for _, seq := range []int{math.MinInt, -1, 0, api.MaxSeq + 1, math.MaxInt} { // the count is the same
		add(func(c *api.Change) { c.Seq, c.Vec[1] = seq, seq })
	}
	for _, s := range []api.Stamp{{}, {N: 6}, {Site: 2}, {N: -1, Site: 2}, {N: math.MinInt, Site: 2}, {N: api.MaxCount + 1, Site: 2}, {N: math.MaxInt, Site: 2}, {N: 6, Site: 1}, {N: 6, Site: 3}, {N: 6, Site: -2}} {
		add(func(c *api.Change) { c.Stamp = s })
	}
	for _, count := range []int{math.MinInt, -1, 0, 1, 2, 4, api.MaxSeq, api.MaxSeq + 1} {
		add(func(c *api.Change) { c.Vec[1] = count })
	}
	for _, count := range []int{math.MinInt, -1, api.MaxSeq + 1, math.MaxInt} { // of the other site
		add(func(c *api.Change) { c.Vec[0] = count })
	}
	add(func(c *api.Change) { c.Vec = api.Vec{3, 70} }) // of the other site's count
	for _, l := range noWrites() {
		add(func(c *api.Change) { c.Writes = l })
	}
	return out
}

// noWrites tells writes that no change has, most of them for one thing alone.
func noWrites() [][]api.Write {
	out := [][]api.Write{nil, {}}
	for _, count := range []int{api.MaxWrites + 1, api.MaxWrites + 2, 100} {
		var l []api.Write
		for i := range count {
			l = append(l, put("k"+string(rune('!'+i)), 0, "x"))
		}
		out = append(out, l)
	}
	out = append(out,
		[]api.Write{put("k", 0, "x"), put("k", 0, "x")}, // two of one place
		[]api.Write{put("k", 0, "x"), put("k", 0, "y")},
		[]api.Write{put("k", 0, "x"), gone("k", 0)},
		[]api.Write{put("a", 0, "x"), put("k", 0, "x"), put("k", 0, "x")},
		[]api.Write{put("m", 0, "x"), put("k", 0, "x")}, // out of order
		[]api.Write{put("\xff", 0, "x"), put("\x7f", 0, "x")},
		[]api.Write{put("k\x00", 0, "x"), put("k", 0, "x")},
		[]api.Write{put("a", 0, "x"), put("m", 0, "x"), put("k", 0, "x")},
		[]api.Write{put("a", 0, "x"), put("k", 0, "x"), put("a", 0, "x")},
		[]api.Write{put("k", 0, "x"), put("a", 0, "x"), put("m", 0, "x")},
	)
	for _, w := range []api.Write{
		put("", 0, "x"), gone("", 0), put(key32+"k", 0, "x"), gone(strings.Repeat("k", 3000), 0),
		put("k", -1, "x"), gone("k", math.MinInt), put("k", api.MaxGroups, "x"), gone("k", 1<<32), put("k", math.MaxInt, "x"),
		put("k", 0, value64+"v"), put("k", 0, strings.Repeat("v", 3000)),
		{Key: "k", Gone: true, Value: "x"}, {Key: "k", Gone: true, Value: "\x00"}, {Key: "k", Gone: true, Value: value64}, {Key: "k", Gone: true, Value: value64 + "v"},
	} {
		out = append(out, []api.Write{w})
		all := []api.Write{put("\x00", 0, "y"), w, put(strings.Repeat("\xff", 32), 0, "")}
		slices.SortStableFunc(all, func(a, b api.Write) int { return strings.Compare(a.Key, b.Key) })
		out = append(out, all)
	}
	return out
}

// ofNoGroup tells changes that may be but for a group that a schema has not, in one write.
func ofNoGroup(l []api.Group) []api.Change {
	var out []api.Change
	for _, group := range []int{-1, len(l), len(l) + 1, api.MaxGroups, 1 << 32, math.MinInt, math.MaxInt} {
		out = append(out, of(put("k", group, "x")), of(gone("a", 0), put("k", group, "x")), of(put("a", group, ""), put("k", 0, "x")), of(put("a", 0, ""), gone("k", group), put("m", len(l)-1, "x")))
	}
	return out
}

// wrong tells changes that may not be by a schema.
func wrong(l []api.Group) []api.Change {
	return append(append(faulty(), ofNoGroup(l)...), api.Change{}, api.Change{Writes: []api.Write{put("k", 0, "x")}})
}

func wantCanon(t *testing.T, l, want []api.Write) {
	t.Helper()
	got := change.Canon(l)
	if !slices.Equal(got, want) {
		t.Fatalf("Canon(%v) = %v, want %v", l, got, want)
	}
	if again := change.Canon(got); !slices.Equal(again, want) {
		t.Fatalf("Canon of %v, which Canon told, = %v", got, again)
	}
}

// canon tells in another way than the program does what Canon is to tell.
func canon(l []api.Write) []api.Write {
	var out []api.Write
next:
	for i, w := range l {
		for _, later := range l[i+1:] {
			if later.Key == w.Key && later.Group == w.Group {
				continue next
			}
		}
		at := 0
		for at < len(out) && (out[at].Key < w.Key || out[at].Key == w.Key && out[at].Group < w.Group) {
			at++
		}
		out = slices.Insert(out, at, w)
	}
	return out
}

// orders tells writes in every order.
func orders(l []api.Write) [][]api.Write {
	if len(l) == 0 {
		return [][]api.Write{nil}
	}
	var out [][]api.Write
	for i := range l {
		for _, rest := range orders(slices.Concat(l[:i], l[i+1:])) {
			out = append(out, append([]api.Write{l[i]}, rest...))
		}
	}
	return out
}

func TestCanon(t *testing.T) { // P12.1
	x, y, z := put("k", 0, "x"), put("k", 0, "y"), gone("k", 0)
	wantCanon(t, nil, nil)
	wantCanon(t, []api.Write{}, nil)
	wantCanon(t, []api.Write{{}}, []api.Write{{}})
	wantCanon(t, []api.Write{x}, []api.Write{x})
	wantCanon(t, []api.Write{z}, []api.Write{z})
	wantCanon(t, []api.Write{x, x}, []api.Write{x}) // of one place: the one that stands last
	wantCanon(t, []api.Write{x, y}, []api.Write{y})
	wantCanon(t, []api.Write{y, x}, []api.Write{x})
	wantCanon(t, []api.Write{x, y, z}, []api.Write{z})
	wantCanon(t, []api.Write{z, y, x, y}, []api.Write{y})
	wantCanon(t, []api.Write{y, put("k", 1, "a"), z, put("k", -1, "b"), put("a", 2, "c"), x}, []api.Write{put("a", 2, "c"), put("k", -1, "b"), x, put("k", 1, "a")})
	for _, l := range [][]api.Write{
		{x, y, z},
		{x, y, put("k", 1, "x"), put("k", 1, "y")},
		{put("k", 3, ""), put("k", 2, ""), put("k", 10, ""), put("k", 9, ""), put("k", -3, ""), put("k", -20, "")}, // groups rise as numbers
		{put("k", math.MinInt, ""), put("k", math.MaxInt, ""), put("k", -1, ""), put("k", 0, ""), put("k", 1<<32, "")},
		{put("", 0, "1"), put("\x00", 0, "2"), put("k", 0, "3"), put("k\x00", -1, "4"), put("kk", -9, "5")},
		{put("\x7f", 1, "1"), put("\x80", 0, "2"), put("\xff", 0, "3"), put("é", 0, "4"), put("\xff", -1, "5")},
		{put("a", 9, ""), put("b", 0, ""), put("a", 9, "x"), put("aa", 0, ""), gone("b", 0), put("b", 1, "")},
		{{Key: "k", Gone: true, Value: "both"}, put(strings.Repeat("k", 3000), 99, strings.Repeat("v", 3000)), gone("", -7), x},
	} {
		for _, order := range orders(l) {
			wantCanon(t, order, canon(order))
		}
	}
}

func TestCanonOfMany(t *testing.T) { // P12.1 and P12.5
	r := rand.New(rand.NewPCG(123, 124))
	for count := range 120 {
		var l []api.Write
		for i := range count {
			l = append(l, api.Write{Key: string([]byte{'a' + byte(r.IntN(6)), byte(r.IntN(256))}[:r.IntN(3)]), Group: r.IntN(7) - 2, Gone: r.IntN(2) == 0, Value: string(rune('0' + i))})
		}
		want := canon(l)
		wantCanon(t, l, want)
		for i := range len(want) - 1 {
			if a, b := want[i], want[i+1]; a.Key > b.Key || a.Key == b.Key && a.Group >= b.Group {
				t.Fatalf("%v stands ahead of %v", a, b)
			}
		}
		for range 5 { // writes of unlike places may stand in any order
			shuffled := slices.Clone(want)
			r.Shuffle(len(shuffled), func(i, k int) { shuffled[i], shuffled[k] = shuffled[k], shuffled[i] })
			wantCanon(t, shuffled, want)
			wantCanon(t, append(slices.Clone(l), shuffled...), want) // what stands ahead of the last ones plays no part
		}
		for i := range len(l) - 1 {
			if swapped := slices.Clone(l); l[i].Key != l[i+1].Key || l[i].Group != l[i+1].Group {
				swapped[i], swapped[i+1] = l[i+1], l[i]
				wantCanon(t, swapped, want)
			}
		}
	}
}

func wantGood(t *testing.T, l []api.Group, c api.Change, want api.Errno) {
	t.Helper()
	if e := change.Good(l, c); e != want {
		t.Fatalf("Good(%v, %v) = %d, want %d", l, c, int(e), int(want))
	}
}

func TestGood(t *testing.T) { // P12.2
	for _, l := range schemas {
		for _, c := range some(l) {
			wantGood(t, l, c, api.OK)
		}
		most := len(l) - 1
		for _, writes := range [][]api.Write{
			{put("k", 0, "x")}, {gone("k", 0)}, {put("k", most, "")}, {gone("k", most)},
			{put("\x00", 0, "x")}, {put(key32, 0, value64)}, {gone(key32, most)}, {put("\xff", most, value64)},
			{put("k", 0, "x"), gone("k\x00", 0), put("kk", 0, "x")}, {put("a", most, "x"), put("b", 0, "x")},
			places(l)[:api.MaxWrites],
		} {
			wantGood(t, l, of(writes...), api.OK)
			wantGood(t, l, api.Change{Site: 1, Seq: 1, Stamp: api.Stamp{N: 1, Site: 1}, Vec: api.Vec{1, 0}, Writes: writes}, api.OK)
			wantGood(t, l, api.Change{Site: 1, Seq: 1, Stamp: api.Stamp{N: api.MaxCount, Site: 1}, Vec: api.Vec{1, api.MaxSeq}, Writes: writes}, api.OK)
			wantGood(t, l, api.Change{Site: 2, Seq: api.MaxSeq, Stamp: api.Stamp{N: 1, Site: 2}, Vec: api.Vec{0, api.MaxSeq}, Writes: writes}, api.OK)
			wantGood(t, l, api.Change{Site: 2, Seq: 1, Stamp: api.Stamp{N: 1, Site: 2}, Vec: api.Vec{0, 1}, Writes: writes}, api.OK)
		}
	}
	wantGood(t, ab, of(put("k", 0, "x"), put("k", 1, "y"), gone("l", 0), gone("l", 1)), api.OK)
}

func TestGoodErrors(t *testing.T) { // P12.2
	for _, l := range schemas {
		wantGood(t, l, of(put("a", 0, "x"), gone("k", 0), put("m", 0, "y")), api.OK) // what the faulty ones are but for one thing
		for _, c := range wrong(l) {
			wantGood(t, l, c, api.ErrChange)
			for _, x := range noSchemas { // policy's errors go ahead
				wantGood(t, x.Groups, c, x.Err)
			}
		}
		for _, c := range some(l) {
			for _, x := range noSchemas {
				wantGood(t, x.Groups, c, x.Err)
			}
			for i := range len(c.Writes) - 1 { // out of order, and two of one place
				wantGood(t, l, with(c, func(c *api.Change) { c.Writes[i], c.Writes[i+1] = c.Writes[i+1], c.Writes[i] }), api.ErrChange)
				wantGood(t, l, with(c, func(c *api.Change) { c.Writes[i].Key, c.Writes[i].Group = c.Writes[i+1].Key, c.Writes[i+1].Group }), api.ErrChange)
			}
			for i := range c.Writes {
				wantGood(t, l, with(c, func(c *api.Change) { c.Writes[i].Group = len(l) }), api.ErrChange)
				wantGood(t, l, with(c, func(c *api.Change) { c.Writes[i].Gone, c.Writes[i].Value = true, "x" }), api.ErrChange)
				wantGood(t, l, with(c, func(c *api.Change) { c.Writes[i].Gone, c.Writes[i].Value = false, value64+"x" }), api.ErrChange)
			}
		}
	}
	wantGood(t, ab, of(put("k", 1, "x"), put("k", 0, "y")), api.ErrChange) // groups of one key out of order
	wantGood(t, ab, of(gone("k", 1), put("k", 1, "y")), api.ErrChange)
	wantGood(t, ab, of(put("a", 0, "x"), put("k", 1, "x"), put("k", 0, "x"), put("m", 0, "x")), api.ErrChange)
	wantGood(t, schemas[0], of(put("k", 1, "x")), api.ErrChange) // a group that another schema has
}

func wantRows(t *testing.T, l []api.Group, c api.Change, want ...api.Row) {
	t.Helper()
	got, e := change.Rows(l, c)
	if e != api.OK || !slices.EqualFunc(got, want, func(a, b api.Row) bool { return a.Key == b.Key && slices.Equal(a.Cells, b.Cells) }) {
		t.Fatalf("Rows(%v, %v) = %v, %d, want %v", l, c, got, int(e), want)
	}
}

// rowsOf tells in another way than the program does what rows a change is to make.
func rowsOf(l []api.Group, c api.Change) []api.Row {
	cells := map[string][]api.Cell{}
	var keys []string
	for _, w := range c.Writes {
		if cells[w.Key] == nil {
			cells[w.Key] = make([]api.Cell, len(l))
			keys = append(keys, w.Key)
		}
		made := api.Cell{Stamp: c.Stamp, Vec: c.Vec, Gone: w.Gone, Value: w.Value}
		if w.Gone && l[w.Group].Policy == del {
			made = api.Cell{Dead: c.Vec}
		}
		cells[w.Key][w.Group] = made
	}
	var out []api.Row
	for _, key := range keys {
		out = append(out, api.Row{Key: key, Cells: cells[key]})
	}
	return out
}

func TestRows(t *testing.T) { // P12.2
	s, v := api.Stamp{N: 6, Site: 2}, api.Vec{70, 3}
	x, lastGone, delGone := api.Cell{Stamp: s, Vec: v, Value: "x"}, api.Cell{Stamp: s, Vec: v, Gone: true}, api.Cell{Dead: v}
	wantRows(t, ab, of(put("k", 0, "x")), api.Row{Key: "k", Cells: []api.Cell{x, {}}})
	wantRows(t, ab, of(put("k", 1, "x")), api.Row{Key: "k", Cells: []api.Cell{{}, x}})
	wantRows(t, ab, of(gone("k", 0)), api.Row{Key: "k", Cells: []api.Cell{lastGone, {}}})
	wantRows(t, ab, of(gone("k", 1)), api.Row{Key: "k", Cells: []api.Cell{{}, delGone}})
	wantRows(t, ab, of(put("k", 0, "x"), put("k", 1, "x")), api.Row{Key: "k", Cells: []api.Cell{x, x}}) // several writes of one key
	wantRows(t, ab, of(gone("k", 0), gone("k", 1)), api.Row{Key: "k", Cells: []api.Cell{lastGone, delGone}})
	wantRows(t, ab, of(gone("a", 1), put("k", 0, "x"), gone("k", 1), put("k\x00", 1, "x"), gone("m", 0)),
		api.Row{Key: "a", Cells: []api.Cell{{}, delGone}}, api.Row{Key: "k", Cells: []api.Cell{x, delGone}}, api.Row{Key: "k\x00", Cells: []api.Cell{{}, x}}, api.Row{Key: "m", Cells: []api.Cell{lastGone, {}}})
	wantRows(t, ab, of(put(key32, 0, "")), api.Row{Key: key32, Cells: []api.Cell{{Stamp: s, Vec: v}, {}}})
	wantRows(t, schemas[5], of(gone("k", 0), put("k", 2, "x"), gone("k", 3), gone("m", 2)), api.Row{Key: "k", Cells: []api.Cell{delGone, {}, x, delGone}}, api.Row{Key: "m", Cells: []api.Cell{{}, {}, lastGone, {}}})
	for _, l := range schemas {
		for _, c := range append(some(l), of(places(l)[:api.MaxWrites]...)) {
			wantRows(t, l, c, rowsOf(l, c)...)
			got, _ := change.Rows(l, c)
			for i, r := range got {
				if row.Good(l, r) != api.OK || row.Bare(r) || i > 0 && got[i-1].Key >= r.Key {
					t.Fatalf("Rows(%v, %v) = %v", l, c, got)
				}
			}
		}
	}
}

func TestRowsErrors(t *testing.T) { // P12.2
	none := func(l []api.Group, c api.Change, want api.Errno) {
		t.Helper()
		if rows, e := change.Rows(l, c); len(rows) != 0 || e != want {
			t.Fatalf("Rows(%v, %v) = %v, %d, want none and %d", l, c, rows, int(e), int(want))
		}
	}
	for _, l := range schemas {
		for _, c := range wrong(l) {
			none(l, c, api.ErrChange)
			for _, x := range noSchemas {
				none(x.Groups, c, x.Err)
			}
		}
		for _, c := range some(l) {
			for _, x := range noSchemas {
				none(x.Groups, c, x.Err)
			}
		}
	}
}

func TestHas(t *testing.T) { // P12.2
	c := of(put("a", 1, "x"), gone("k", 0), put("k", 2, ""), put("k\x00", 3, "y"))
	for _, x := range []struct {
		key   string
		group int
		want  bool
	}{
		{"a", 1, true}, {"k", 0, true}, {"k", 2, true}, {"k\x00", 3, true},
		{"a", 0, false}, {"a", 2, false}, {"a", -1, false}, {"k", 1, false}, {"k", 3, false}, {"k\x00", 0, false}, {"k", math.MinInt, false}, {"k", 1 << 32, false}, {"k", math.MaxInt, false}, // with another group
		{"", 0, false}, {"", 1, false}, {"b", 0, false}, {"b", 1, false}, {"A", 1, false}, {"kk", 0, false}, {"k\x00\x00", 3, false}, {"ka", 0, false}, {"x", 1, false}, // another key
	} {
		if got := change.Has(c, x.key, x.group); got != x.want {
			t.Errorf("Has(.., %q, %d) = %t", x.key, x.group, got)
		}
	}
	for _, l := range schemas {
		for _, c := range append(some(l), wrong(l)...) { // those that may not be, too
			for _, w := range append(c.Writes, places(l)...) {
				for _, group := range []int{w.Group, w.Group - 1, w.Group + 1, 0} {
					want := slices.ContainsFunc(c.Writes, func(x api.Write) bool { return x.Key == w.Key && x.Group == group })
					if got := change.Has(c, w.Key, group); got != want {
						t.Fatalf("Has(%v, %.40q, %d) = %t", c, w.Key, group, got)
					}
				}
			}
		}
	}
	if change.Has(api.Change{}, "", 0) || !change.Has(api.Change{Writes: []api.Write{{}}}, "", 0) || !change.Has(api.Change{Writes: []api.Write{put("k", -5, "x")}}, "k", -5) {
		t.Error("Has of changes that may not be")
	}
}

// partsOf tells what the bytes of a change are to be, number by number and text by text.
func partsOf(c api.Change) [][]byte {
	out := [][]byte{probe.Laid(c.Site), probe.Laid(c.Seq), probe.Laid(2*c.Stamp.N + c.Stamp.Site - 1), probe.Laid(c.Vec[0]), probe.Laid(c.Vec[1]), probe.Laid(len(c.Writes))}
	for _, w := range c.Writes {
		out = append(out, textOf(w.Key), probe.Laid(w.Group))
		if w.Gone {
			out = append(out, []byte{1})
		} else {
			out = append(out, []byte{0}, textOf(w.Value))
		}
	}
	return out
}

// textOf tells what a text's bytes are to be.
func textOf(s string) []byte {
	return append(probe.Laid(len(s)), s...)
}

// bytesOf tells what the bytes of a change are to be.
func bytesOf(c api.Change) []byte {
	return slices.Concat(partsOf(c)...)
}

func wantPut(t *testing.T, ahead string, l []api.Group, c api.Change, want string) {
	t.Helper()
	if got := change.Put([]byte(ahead), l, c); string(got) != ahead+want {
		t.Fatalf("Put(%q, %v, %v) = %x, want %x behind it", ahead, l, c, got, want)
	}
}

// example is the chapter's, exampleBytes are its bytes.
var example = api.Change{Site: 1, Seq: 1, Stamp: api.Stamp{N: 1, Site: 1}, Vec: api.Vec{1, 0}, Writes: []api.Write{put("k", 0, "x")}}

const exampleBytes = "\x01\x01\x02\x01\x00\x01\x01\x6b\x00\x00\x01\x78"

func TestPut(t *testing.T) { // P12.3
	for _, ahead := range []string{"", "z", "\x01", "some bytes"} {
		wantPut(t, ahead, ab, example, exampleBytes)
		wantPut(t, ahead, schemas[0], example, exampleBytes)
		wantPut(t, ahead, ab, of(put("a", 1, ""), gone("kk", 0)), "\x02\x03\x0d\x40\x46\x03\x02\x01a\x01\x00\x00\x02kk\x00\x01")
		wantPut(t, ahead, ab, of(gone("a", 0), gone("a", 1)), "\x02\x03\x0d\x40\x46\x03\x02\x01a\x00\x01\x01a\x01\x01")
		wantPut(t, ahead, ab, of(put(key32, 1, value64)), "\x02\x03\x0d\x40\x46\x03\x01\x20"+key32+"\x01\x00\x40\x40"+value64)
		for _, l := range schemas {
			for _, c := range some(l) {
				wantPut(t, ahead, l, c, string(bytesOf(c)))
			}
		}
	}
	if got := change.Put(nil, ab, example); string(got) != exampleBytes {
		t.Fatalf("Put(nil, ..) = %x", got)
	}
}

func TestPutOfBad(t *testing.T) { // P12.3
	for _, ahead := range []string{"", "z", "some bytes"} {
		for _, l := range schemas {
			for _, c := range wrong(l) {
				wantPut(t, ahead, l, c, "")
			}
			for _, x := range noSchemas {
				wantPut(t, ahead, x.Groups, example, "")
				wantPut(t, ahead, x.Groups, api.Change{}, "")
			}
		}
	}
	if got := change.Put(nil, ab, api.Change{}); len(got) > 0 {
		t.Fatalf("Put of a change that may not be = %x", got)
	}
}

func wantGet(t *testing.T, b []byte, l []api.Group, want api.Change, size int) {
	t.Helper()
	if c, n, e := change.Get(b, l); !same(c, want) || n != size || e != api.OK {
		t.Fatalf("Get(%x, %v) = %v, %d, %d, want %v, %d", b, l, c, n, int(e), want, size)
	}
}

func wantNone(t *testing.T, b []byte, l []api.Group, want api.Errno) {
	t.Helper()
	if c, n, e := change.Get(b, l); !same(c, api.Change{}) || n != 0 || e != want {
		t.Fatalf("Get(%x, %v) = %v, %d, %d, want none and %d", b, l, c, n, int(e), int(want))
	}
}

func TestGet(t *testing.T) { // P12.3 and P12.4
	wantGet(t, []byte(exampleBytes), ab, example, 12)
	wantGet(t, []byte(exampleBytes+"more"), ab, example, 12)
	for _, l := range schemas {
		for _, c := range some(l) {
			b := bytesOf(c)
			for _, behind := range []string{"", "\x00", "\xff", exampleBytes, "whatever there is"} {
				wantGet(t, append(slices.Clone(b), behind...), l, c, len(b))
			}
			got := change.Put(nil, l, c)
			wantGet(t, got, l, c, len(got))
		}
	}
}

func TestGetCut(t *testing.T) { // P12.3
	for _, l := range schemas {
		for _, c := range some(l) {
			b := bytesOf(c)
			for have := range len(b) { // the missing bytes stand behind the list's length
				wantNone(t, b[:have], l, api.ErrChange)
			}
		}
		wantNone(t, nil, l, api.ErrChange)
	}
}

// badNumbers are bytes with which no number begins: in more bytes than are needed, or cut.
var badNumbers = []string{"\x40\x00", "\x40\x01", "\x40\x3f", "\x80\x00\x00\x01", "\x80\x00\x3f\xff", "\xc0\x00\x00\x00\x00\x00\x00\x01", "\xc0\x00\x00\x00\x3f\xff\xff\xff"}

func TestGetParts(t *testing.T) { // P12.3: each part in turn is one that may not be
	laid := func(l ...int) [][]byte {
		var out [][]byte
		for _, n := range l {
			out = append(out, probe.Laid(n))
		}
		return out
	}
	key := [][]byte{{0}, textOf(key32 + "k"), textOf(strings.Repeat("k", 100)), append(probe.Laid(1<<14), key32...), append(probe.Laid(api.MaxNum), key32...), []byte("\x40\x01k")}
	value := [][]byte{textOf(value64 + "v"), textOf(strings.Repeat("v", 100)), append(probe.Laid(1<<14), value64...), append(probe.Laid(api.MaxNum), value64...), []byte("\x40\x01x")}
	notGone, gone := laid(1, 2, 3, 63, 64, api.MaxNum), laid(0, 2, 3, 63, 64, api.MaxNum)
	for _, l := range schemas {
		most := len(l) - 1
		group := laid(len(l), len(l)+1, 63, 64, 1<<32, api.MaxNum)
		c := of(put("a", most, "xyz"), api.Write{Key: "k", Group: most, Gone: true}, put("m", 0, value64))
		bad := [][][]byte{
			laid(0, 1, 3, 4, 64, 1<<32+2, api.MaxNum),
			laid(0, 1, 2, 4, 70, api.MaxSeq, api.MaxSeq+1, api.MaxNum),
			laid(0, 1, 2, 12, 2*(api.MaxCount+1), 2*(api.MaxCount+1)+1, api.MaxNum), // none, the zero one, of the other site, too great ones
			laid(api.MaxSeq+1, api.MaxNum),
			laid(0, 1, 2, 4, api.MaxSeq, api.MaxSeq+1, api.MaxNum),
			laid(0, 4, 8, 9, 63, 64, 1<<32+3, api.MaxNum), // fewer would be there, but 0
			key, group, notGone, value, key, group, gone, key, group, notGone[1:], value,
		}
		parts := partsOf(c)
		wantGet(t, slices.Concat(parts...), l, c, len(bytesOf(c)))
		if len(bad) != len(parts) {
			t.Fatalf("%d parts, want %d", len(parts), len(bad))
		}
		for i := range parts {
			for _, s := range badNumbers {
				bad[i] = append(bad[i], []byte(s))
			}
			for _, part := range bad[i] {
				b := slices.Concat(slices.Concat(parts[:i]...), part, slices.Concat(parts[i+1:]...))
				wantNone(t, b, l, api.ErrChange)
				wantNone(t, append(b, make([]byte, 200)...), l, api.ErrChange)
				for _, x := range noSchemas {
					wantNone(t, b, x.Groups, x.Err)
				}
			}
		}
	}
}

func TestGetMaxWrites(t *testing.T) { // P12.3
	for _, l := range schemas {
		for count := 1; count <= 20; count++ {
			c := of(places(l)[:min(count, len(places(l)))]...)
			b := bytesOf(c)
			if count <= api.MaxWrites {
				wantGet(t, b, l, c, len(b))
			} else {
				wantNone(t, b, l, api.ErrChange)
			}
		}
	}
}

func TestGetOfBad(t *testing.T) { // P12.3: bytes of changes that may not be
	numbers := func(c api.Change) []int {
		out := []int{c.Site, c.Seq, 2*c.Stamp.N + c.Stamp.Site - 1, c.Vec[0], c.Vec[1]}
		for _, w := range c.Writes {
			out = append(out, w.Group)
		}
		return out
	}
	tried := 0
	for _, l := range schemas {
		for _, c := range wrong(l) {
			if slices.ContainsFunc(numbers(c), func(n int) bool { return n < 0 || n > api.MaxNum }) || slices.ContainsFunc(c.Writes, func(w api.Write) bool { return w.Gone && w.Value != "" }) {
				continue // no bytes could tell it
			}
			if c.Stamp.Site != 1 && c.Stamp.Site != 2 {
				continue // its code is another stamp's
			}
			tried++
			wantNone(t, bytesOf(c), l, api.ErrChange)
			wantNone(t, append(bytesOf(c), exampleBytes...), l, api.ErrChange)
			for _, x := range noSchemas {
				wantNone(t, bytesOf(c), x.Groups, x.Err)
			}
		}
		for _, c := range some(l) {
			for _, x := range noSchemas { // policy's error goes ahead of that of bytes
				for _, b := range [][]byte{nil, {0}, {0xff}, bytesOf(c), bytesOf(c)[1:]} {
					wantNone(t, b, x.Groups, x.Err)
				}
			}
		}
	}
	if tried < 200 {
		t.Fatalf("%d changes that may not be have bytes", tried)
	}
}

func TestBackOfBytes(t *testing.T) { // P12.4: what is got of any bytes is put as it was
	r := rand.New(rand.NewPCG(125, 126))
	taken, refused := 0, 0
	for range 60 {
		for _, l := range schemas {
			for _, c := range some(l) {
				b := append(bytesOf(c), 0, 0, 0)
				b[r.IntN(len(b))] = byte(r.Uint32() >> r.IntN(9))
				got, n, e := change.Get(b, l)
				if e != api.OK {
					refused++
					wantNone(t, b, l, api.ErrChange)
					continue
				}
				taken++
				if change.Good(l, got) != api.OK || n > len(b) || !bytes.Equal(change.Put(nil, l, got), b[:n]) {
					t.Fatalf("%x is got as %v, %d, and put as %x", b, got, n, change.Put(nil, l, got))
				}
			}
		}
	}
	if taken < 1000 || refused < 1000 {
		t.Fatalf("%d are taken, %d refused", taken, refused)
	}
}

func TestHandedInStays(t *testing.T) { // rules 4 and 8
	for _, l := range schemas {
		for _, spare := range []api.Write{{}, put("a", 0, "spare"), put("\xff\xff\xff\xff", 0, "spare"), gone("", -1)} {
			for _, c := range append(some(l), wrong(l)...) {
				groups, allGroups := probe.Roomy(l, api.Group{Name: "spare", Policy: del})
				writes, allWrites := probe.Roomy(c.Writes, spare)
				b, allBytes := probe.Roomy([]byte("some bytes"), 1)
				groupsBefore, writesBefore, bytesBefore := slices.Clone(allGroups), slices.Clone(allWrites), slices.Clone(allBytes)
				roomy := c
				roomy.Writes = writes
				if !slices.Equal(change.Canon(writes), canon(c.Writes)) {
					t.Fatalf("Canon(%v) hangs on what stands behind its length", c.Writes)
				}
				want := change.Good(l, c)
				wantGood(t, groups, roomy, want)
				if rows, e := change.Rows(groups, roomy); e != want {
					t.Fatalf("Rows(%v) = %v, %d", roomy, rows, int(e))
				} else if e == api.OK {
					wantRows(t, groups, roomy, rowsOf(l, c)...)
				}
				if change.Has(roomy, spare.Key, spare.Group) != change.Has(c, spare.Key, spare.Group) {
					t.Fatalf("Has(%v) hangs on what stands behind its length", roomy)
				}
				if got, want := change.Put(b, groups, roomy), change.Put([]byte("some bytes"), l, c); !bytes.Equal(got, want) {
					t.Fatalf("Put(.., %v) = %x, want %x", roomy, got, want)
				}
				if !slices.Equal(allGroups, groupsBefore) || !slices.Equal(allWrites, writesBefore) || !bytes.Equal(allBytes, bytesBefore) {
					t.Fatalf("the memory of %v or of %v was changed", l, c)
				}
			}
		}
	}
}

func TestGetLeavesBytes(t *testing.T) { // rules 4 and 8
	whole := bytesOf(of(put("a", 0, "x"), gone("k", 0), put("m", 0, "y")))
	for have := range len(whole) + 1 {
		for _, spare := range []byte{0, 1, 2, 'x', 0xff} {
			b, all := probe.Roomy(whole[:have], spare)
			before := slices.Clone(all)
			want, size, wantE := change.Get(slices.Clip(slices.Clone(whole[:have])), ab)
			c, n, e := change.Get(b, ab)
			if !same(c, want) || n != size || e != wantE || !bytes.Equal(all, before) {
				t.Fatalf("Get(%x) = %v, %d, %d, its memory %x", b, c, n, int(e), all)
			}
			clear(all)
			if !same(c, want) {
				t.Fatalf("a change that was got has become %v", c)
			}
		}
	}
}

func TestHandedOutIsNew(t *testing.T) { // rule 4
	for _, l := range schemas {
		for _, c := range some(l) {
			writes, whole := probe.Roomy(c.Writes, put("k", 0, "spare"))
			in := c
			in.Writes = writes
			b := bytesOf(c)
			lists := [][]api.Write{whole}
			for range 2 {
				lists = append(lists, change.Canon(writes))
				got, _, e := change.Get(b, l)
				lists = append(lists, got.Writes)
				if e != api.OK {
					t.Fatalf("Get(%x) = %d", b, int(e))
				}
			}
			if !probe.Apart(lists...) {
				t.Fatalf("writes handed out or in share memory, of %v", c)
			}
			first, _ := change.Rows(l, in)
			again, _ := change.Rows(l, in)
			if !probe.Apart(first, again) {
				t.Fatalf("rows handed out share memory, of %v", c)
			}
			var cells [][]api.Cell
			for _, r := range slices.Concat(first, again) {
				cells = append(cells, r.Cells)
			}
			if !probe.Apart(cells...) {
				t.Fatalf("cells handed out share memory, of %v", c)
			}
		}
		for _, c := range append(some(l)[:10], wrong(l)[:10]...) {
			for _, s := range []string{"", "x", "some bytes"} {
				b, whole := probe.Roomy([]byte(s), 1)
				if !probe.Apart(whole, change.Put(b, l, c), change.Put(b, l, c), change.Put(whole, l, c)) {
					t.Fatalf("bytes handed out or in share memory, with %q and %v", s, c)
				}
			}
		}
	}
}
