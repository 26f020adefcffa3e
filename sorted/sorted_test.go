package sorted_test

import (
	"fmt"
	"maps"
	"math"
	"math/rand/v2"
	"slices"
	"strings"
	"testing"

	"gemel/api"
	"gemel/probe"
	"gemel/sorted"
)

// oddKeys are keys that begin one another, with bytes 0 and above 127, and long ones.
var oddKeys = []string{
	"\x00", "\x00\x00", "\x00\xff", "\x01", " ", "A", "a", "a\x00", "a\x00\x00", "a\x00b", "a\x01", "aa", "aaa", "ab", "b", "k", "\x7f", "\x80", "\x80\x00", "é", "\xff", "\xff\x00", "\xff\xff",
	strings.Repeat("k", api.MaxKey), strings.Repeat("k", api.MaxKey+1), strings.Repeat("k", 3000), strings.Repeat("k", 3000) + "\x00", strings.Repeat("k", 2999) + "j",
}

// keysOf tells so many keys, in order.
func keysOf(count int) []string {
	out := make([]string, count)
	for i := range out {
		out[i] = fmt.Sprintf("k%05d", i)
	}
	return out
}

// rowOf tells a row of none to three cells; another number, another row.
func rowOf(key string, number int) api.Row {
	r := api.Row{Key: key}
	for i := range number % 4 {
		r.Cells = append(r.Cells, api.Cell{Stamp: api.Stamp{N: number, Site: 1 + i%2}, Vec: api.Vec{number, i}, Value: fmt.Sprint(number)})
	}
	return r
}

// same tells whether two rows are.
func same(a, b api.Row) bool {
	return a.Key == b.Key && slices.Equal(a.Cells, b.Cells)
}

// nothing tells whether a row is the zero one.
func nothing(r api.Row) bool {
	return r.Key == "" && len(r.Cells) == 0
}

// orders tells keys that rise in several orders.
func orders(keys []string) map[string][]string {
	falling := slices.Clone(keys)
	slices.Reverse(falling)
	var ends []string
	for i := range keys {
		if i%2 == 0 {
			ends = append(ends, keys[i/2])
		} else {
			ends = append(ends, keys[len(keys)-1-i/2])
		}
	}
	middle := slices.Clone(ends)
	slices.Reverse(middle)
	mixed, r := slices.Clone(keys), rand.New(rand.NewPCG(111, 112))
	r.Shuffle(len(mixed), func(i, k int) { mixed[i], mixed[k] = mixed[k], mixed[i] })
	return map[string][]string{"rising": keys, "falling": falling, "from both ends": ends, "from the middle": middle, "mixed": mixed}
}

// plain is what a map is to have, kept in another way than the program keeps it.
type plain map[string]api.Row

// scan tells what a Scan is to tell.
func (p plain) scan(from, until string, n int) []api.Row {
	var out []api.Row
	for _, key := range slices.Sorted(maps.Keys(p)) {
		if key >= from && (until == "" || key < until) && len(out) < n {
			out = append(out, p[key])
		}
	}
	return out
}

// filled tells a map with rows of these keys, set in this order, and what it is to have.
func filled(t *testing.T, keys []string) (*sorted.Map, plain) {
	t.Helper()
	m, want := sorted.New(), plain{}
	for i, key := range keys {
		put(t, m, want, rowOf(key, i))
	}
	return m, want
}

// put sets a row.
func put(t *testing.T, m *sorted.Map, want plain, r api.Row) {
	t.Helper()
	if e := m.Set(r); e != api.OK {
		t.Fatalf("Set(%v) = %d", r, int(e))
	}
	want[r.Key] = r
	if m.Len() != len(want) {
		t.Fatalf("%d rows behind Set of %.40q, want %d", m.Len(), r.Key, len(want))
	}
}

// drop takes a row away that may be there or not.
func drop(t *testing.T, m *sorted.Map, want plain, key string) {
	t.Helper()
	_, there := want[key]
	delete(want, key)
	if got := m.Drop(key); got != there || m.Len() != len(want) {
		t.Fatalf("Drop(%.40q) = %t, with %d rows behind it, want %t and %d", key, got, m.Len(), there, len(want))
	}
	wantGet(t, m, want, key)
}

// wantGet wants the row of a key, or none.
func wantGet(t *testing.T, m *sorted.Map, want plain, key string) {
	t.Helper()
	r, there := want[key]
	if got, ok := m.Get(key); !same(got, r) || ok != there {
		t.Fatalf("Get(%.40q) = %v, %t, want %v, %t", key, got, ok, r, there)
	}
}

// wantScan wants what a Scan is to tell.
func wantScan(t *testing.T, m *sorted.Map, want plain, from, until string, n int) {
	t.Helper()
	wantRows(t, m.Scan(from, until, n), want.scan(from, until, n))
}

// wantRows wants just these rows.
func wantRows(t *testing.T, got, want []api.Row) {
	t.Helper()
	if !slices.EqualFunc(got, want, same) {
		t.Fatalf("%d rows %v, want %d rows %v", len(got), got, len(want), want)
	}
}

// wantAll wants that a map has just these rows.
func wantAll(t *testing.T, m *sorted.Map, want plain) {
	t.Helper()
	if m.Len() != len(want) {
		t.Fatalf("%d rows, want %d", m.Len(), len(want))
	}
	wantScan(t, m, want, "", "", math.MaxInt)
	for key := range want {
		wantGet(t, m, want, key)
		wantGet(t, m, want, key+"\x00")
		wantGet(t, m, want, key[:len(key)-1])
	}
}

func TestEmpty(t *testing.T) { // P11.1, P11.2 and P11.3
	m := sorted.New()
	for range 2 { // and nothing has changed
		for _, key := range append([]string{""}, oddKeys...) {
			if r, ok := m.Get(key); ok || !nothing(r) {
				t.Fatalf("Get(%.40q) = %v, %t of no rows", key, r, ok)
			}
			if m.Drop(key) {
				t.Fatalf("Drop(%.40q) of no rows", key)
			}
			for _, until := range []string{"", "a", "\xff"} {
				if l := m.Scan(key, until, 9); len(l) != 0 {
					t.Fatalf("Scan(%.40q, %q) of no rows: %v", key, until, l)
				}
			}
		}
		if c := m.Copy(); c == nil || c == m || c.Len() != 0 || len(c.Scan("", "", 9)) != 0 || c.Set(api.Row{Key: "k"}) != api.OK || c.Len() != 1 {
			t.Fatal("a copy of a map without rows")
		}
		if m.Len() != 0 {
			t.Fatalf("%d rows of none", m.Len())
		}
	}
}

func TestExample(t *testing.T) { // P11.1 and P11.2: the chapter's example
	m, want := filled(t, []string{"b", "a", "c"})
	wantRows(t, m.Scan("", "c", 9), []api.Row{want["a"], want["b"]})
	wantRows(t, m.Scan("aa", "", 9), []api.Row{want["b"], want["c"]})
}

func TestSet(t *testing.T) { // P11.1
	for _, keys := range [][]string{{"k"}, {"\x00"}, {"k", "l"}, slices.Sorted(slices.Values(oddKeys)), keysOf(63), keysOf(64), keysOf(65), keysOf(1000)} {
		for name, order := range orders(keys) {
			m, want := filled(t, order)
			wantAll(t, m, want)
			for i, key := range order { // each row's place is taken by another one
				before := want[key]
				put(t, m, want, rowOf(key, i+1))
				wantGet(t, m, want, key)
				if got, _ := m.Get(key); same(got, before) {
					t.Fatalf("%s: the row of %.40q is still %v", name, key, got)
				}
			}
			wantAll(t, m, want)
		}
	}
}

func TestSetWithoutCells(t *testing.T) { // P11.1
	m, want := filled(t, keysOf(200))
	for i, key := range keysOf(250) {
		r := api.Row{Key: key}
		if i%2 == 0 {
			r.Cells = []api.Cell{}
		}
		put(t, m, want, r)
	}
	wantAll(t, m, want)
	for _, r := range m.Scan("", "", 1000) {
		if len(r.Cells) != 0 {
			t.Fatalf("a row without cells has become %v", r)
		}
	}
}

func TestSetEmptyKey(t *testing.T) { // P11.1
	for _, keys := range [][]string{nil, {"\x00"}, oddKeys, keysOf(300)} {
		m, want := filled(t, keys)
		for _, r := range []api.Row{{}, rowOf("", 1), rowOf("", 7), {Cells: []api.Cell{}}} {
			if e := m.Set(r); e != api.ErrArg {
				t.Fatalf("Set(%v) = %d", r, int(e))
			}
			wantAll(t, m, want)
			wantGet(t, m, want, "")
			drop(t, m, want, "")
		}
	}
}

func TestDrop(t *testing.T) { // P11.1
	for _, keys := range [][]string{{"k"}, slices.Sorted(slices.Values(oddKeys)), keysOf(64), keysOf(129), keysOf(1000)} {
		for _, order := range orders(keys) {
			for _, away := range orders(keys) {
				m, want := filled(t, order)
				for i, key := range away {
					drop(t, m, want, key+"\x00")
					drop(t, m, want, key[:len(key)-1]+"\x00\x00\x00") // a key that is nobody's
					drop(t, m, want, key)
					drop(t, m, want, key)
					if i%97 == 0 {
						wantAll(t, m, want)
					}
				}
				wantAll(t, m, plain{})
				for i, key := range order { // what is gone may come again
					put(t, m, want, rowOf(key, i+2))
				}
				wantAll(t, m, want)
			}
		}
	}
}

func TestVeryMany(t *testing.T) { // P11.1 and P11.2
	keys := keysOf(50000)
	for name, order := range orders(keys) {
		m := sorted.New()
		for i, key := range order {
			if e := m.Set(rowOf(key, i)); e != api.OK || m.Len() != i+1 {
				t.Fatalf("%s: %d, %d rows of %d", name, int(e), m.Len(), i+1)
			}
		}
		for i, r := range m.Scan("", "", len(keys)+1) {
			if r.Key != keys[i] {
				t.Fatalf("%s: row %d is of %q", name, i, r.Key)
			}
		}
		for i, key := range order {
			if r, ok := m.Get(key); !ok || !same(r, rowOf(key, i)) {
				t.Fatalf("%s: Get(%q) = %v, %t", name, key, r, ok)
			}
			if l := m.Scan(key, "", 1); len(l) != 1 || !same(l[0], rowOf(key, i)) {
				t.Fatalf("%s: Scan(%q, .., 1) = %v", name, key, l)
			}
			if !m.Drop(key) || m.Drop(key) || m.Len() != len(keys)-1-i {
				t.Fatalf("%s: Drop(%q), with %d rows behind it", name, key, m.Len())
			}
		}
		if len(m.Scan("", "", 9)) != 0 {
			t.Fatalf("%s: rows when all are gone", name)
		}
	}
}

func TestAnything(t *testing.T) { // P11.1, P11.2 and P11.3: whatever is done, in whatever order
	r := rand.New(rand.NewPCG(113, 114))
	for _, keys := range [][]string{oddKeys, keysOf(20), keysOf(150), keysOf(600)} {
		m, want := filled(t, nil)
		pick := func() string { return keys[r.IntN(len(keys))] }
		for turn := range 6 {
			for i := range 1500 { // more is set in one turn, more dropped in the next one
				if r.IntN(5) < 1+turn%2*3 {
					drop(t, m, want, pick())
				} else {
					put(t, m, want, rowOf(pick(), i))
				}
				wantGet(t, m, want, pick())
				if i%50 == 0 {
					wantScan(t, m, want, pick(), pick(), r.IntN(len(keys)))
					m = m.Copy()
				}
			}
			wantAll(t, m, want)
		}
	}
}

// bordersOf tells keys, what stands between them, ahead of all and behind all.
func bordersOf(keys []string) []string {
	out := []string{"", "\x00", "\xff\xff\xff"}
	for _, key := range keys {
		out = append(out, key, key+"\x00", key[:len(key)-1]+string(key[len(key)-1]-1)+"~")
	}
	return out
}

func TestScanBorders(t *testing.T) { // P11.2: each key, and so each block's end, is a border
	keys := keysOf(80)
	for _, order := range orders(keys) {
		m, want := filled(t, order)
		for i, key := range keys { // blocks of which some rows are gone, too
			if i%5 == 2 {
				drop(t, m, want, key)
			}
		}
		all := want.scan("", "", math.MaxInt)
		for _, from := range bordersOf(keys) {
			for _, until := range bordersOf(keys) {
				start, _ := slices.BinarySearchFunc(all, from, func(r api.Row, key string) int { return strings.Compare(r.Key, key) })
				end, _ := slices.BinarySearchFunc(all, until, func(r api.Row, key string) int { return strings.Compare(r.Key, key) })
				if until == "" {
					end = len(all)
				}
				if l := m.Scan(from, until, 1000); !slices.EqualFunc(l, all[start:max(start, end)], same) {
					t.Fatalf("Scan(%q, %q) tells %d rows, want %d", from, until, len(l), max(0, end-start))
				}
			}
		}
	}
}

func TestScanOddKeys(t *testing.T) { // P11.2
	for _, order := range orders(slices.Sorted(slices.Values(oddKeys))) {
		m, want := filled(t, order)
		for _, from := range append(bordersOf(oddKeys[5:15]), oddKeys...) {
			for _, until := range append(bordersOf(oddKeys[5:15]), oddKeys...) {
				for _, n := range []int{0, 1, 2, 100} {
					wantScan(t, m, want, from, until, n)
				}
			}
		}
	}
}

func TestScanCount(t *testing.T) { // P11.2
	for _, keys := range [][]string{nil, {"k"}, keysOf(64), keysOf(200)} {
		for _, order := range orders(keys) {
			m, want := filled(t, order)
			for _, from := range []string{"", "k00031\x00", "k00063", "k00198", "k00199", "l"} {
				for _, until := range []string{"", "k00000", "k00064", "k00199", "k00199\x00", "z"} {
					for n := range 67 {
						wantScan(t, m, want, from, until, n)
					}
					have := len(want.scan(from, until, math.MaxInt))
					for _, n := range []int{math.MinInt, -1 << 32, -2, -1, have - 1, have, have + 1, 1 << 32, math.MaxInt} {
						wantScan(t, m, want, from, until, n)
					}
				}
			}
		}
	}
}

func TestCopy(t *testing.T) { // P11.3
	for _, count := range []int{0, 1, 31, 63, 64, 200, 700} {
		for _, order := range orders(keysOf(count)) {
			m, want := filled(t, order)
			c, wantC := m.Copy(), maps.Clone(want)
			wantAll(t, c, wantC)
			for i, key := range order { // rows that both have
				if i%3 == 0 {
					put(t, m, want, rowOf(key, i+1))
				} else if i%3 == 1 {
					put(t, c, wantC, rowOf(key, i+2))
				}
			}
			wantAll(t, m, want)
			wantAll(t, c, wantC)
			for i := range 300 { // blocks of both are split
				put(t, m, want, rowOf(fmt.Sprintf("k%05d+%d", i*7%(count+1), i), i))
				put(t, c, wantC, rowOf(fmt.Sprintf("k%05d-%d", i*5%(count+1), i), i))
			}
			wantAll(t, m, want)
			wantAll(t, c, wantC)
			for key := range maps.Clone(want) { // one is emptied, then the other one
				drop(t, m, want, key)
			}
			wantAll(t, m, plain{})
			wantAll(t, c, wantC)
			put(t, m, want, rowOf("k", 3))
			for key := range maps.Clone(wantC) {
				drop(t, c, wantC, key)
			}
			wantAll(t, m, want)
			wantAll(t, c, plain{})
		}
	}
}

func TestCopies(t *testing.T) { // P11.3: copies of copies, changed in turn
	r := rand.New(rand.NewPCG(115, 116))
	m, want := filled(t, keysOf(100))
	maps1, wants := []*sorted.Map{m}, []plain{want}
	for turn := range 12 {
		i := r.IntN(len(maps1))
		maps1, wants = append(maps1, maps1[i].Copy()), append(wants, maps.Clone(wants[i]))
		for k := range 1500 {
			i, key := r.IntN(len(maps1)), fmt.Sprintf("k%05d", r.IntN(250))
			if r.IntN(2) == 0 {
				drop(t, maps1[i], wants[i], key)
			} else {
				put(t, maps1[i], wants[i], rowOf(key, k+turn))
			}
		}
		for i, m := range maps1 {
			wantAll(t, m, wants[i])
		}
	}
}

func TestNoMap(t *testing.T) { // P11.1 to P11.3: a Map that no call made
	var none *sorted.Map
	var zero sorted.Map
	for _, m := range []*sorted.Map{none, &zero, {}, new(sorted.Map)} {
		for range 2 { // and nothing is done
			for _, r := range []api.Row{{}, {Key: "k"}, rowOf("k", 3), rowOf("", 3)} {
				if e := m.Set(r); e != api.ErrNil {
					t.Fatalf("Set(%v) = %d", r, int(e))
				}
				if got, ok := m.Get(r.Key); ok || !nothing(got) {
					t.Fatalf("Get(%q) = %v, %t", r.Key, got, ok)
				}
				if m.Drop(r.Key) {
					t.Fatalf("Drop(%q)", r.Key)
				}
			}
			for _, n := range []int{-1, 0, 1, math.MaxInt} {
				if m.Len() != 0 || len(m.Scan("", "", n)) != 0 || len(m.Scan("a", "z", n)) != 0 {
					t.Fatal("rows of no map")
				}
			}
			if m.Copy() != nil {
				t.Fatal("a copy of no map")
			}
		}
	}
}

func TestOrder(t *testing.T) { // P11.4
	for _, keys := range [][]string{slices.Sorted(slices.Values(oddKeys)), keysOf(100), keysOf(500)} {
		want := plain{}
		for i, key := range keys {
			want[key] = rowOf(key, i)
		}
		for _, order := range orders(keys) {
			for _, first := range orders(keys) { // rows that others take the place of, or that are dropped, leave no trace
				m := sorted.New()
				for i, key := range first {
					m.Set(rowOf(key, i+1))
					m.Set(rowOf(key+"\x00", i))
				}
				for _, key := range order {
					m.Set(want[key])
				}
				for _, key := range first {
					if _, ok := want[key+"\x00"]; !ok {
						m.Drop(key + "\x00")
					}
				}
				l := m.Scan("", "", math.MaxInt)
				wantRows(t, l, want.scan("", "", math.MaxInt))
				for i := range l[1:] {
					if l[i].Key >= l[i+1].Key {
						t.Fatalf("%.40q stands ahead of %.40q", l[i].Key, l[i+1].Key)
					}
				}
			}
		}
	}
}

func TestParts(t *testing.T) { // P11.5
	for _, keys := range [][]string{nil, {"k"}, slices.Sorted(slices.Values(oddKeys)), keysOf(200)} {
		for _, order := range orders(keys) {
			m, want := filled(t, order)
			for _, until := range []string{"", "k00100", "z"} {
				whole := want.scan("", until, math.MaxInt)
				wantRows(t, m.Scan("", until, math.MaxInt), whole)
				for size := 1; size <= len(whole)+2; size++ {
					var got []api.Row
					from := ""
					for part := m.Scan(from, until, size); len(part) > 0; part = m.Scan(from, until, size) {
						got = append(got, part...)
						from = got[len(got)-1].Key + "\x00" // behind the last one
					}
					wantRows(t, got, whole)
				}
			}
		}
	}
}

// spoil writes over all memory of a row's cells, spare room too.
func spoil(r api.Row) {
	cells := r.Cells[:cap(r.Cells)]
	for i := range cells {
		cells[i] = api.Cell{Value: "spoilt"}
	}
}

func TestHandedInStays(t *testing.T) { // rules 4 and 8
	spare := api.Cell{Value: "spare"}
	for _, first := range []string{"", "k", "a", "z"} { // into no block, in another one's place, ahead of one, behind one
		for number := range 4 {
			m, want := filled(t, keysOf(40))
			if first != "" {
				put(t, m, want, rowOf(first, 5))
			}
			cells, whole := probe.Roomy(rowOf("k", number).Cells, spare)
			before := slices.Clone(whole)
			put(t, m, want, api.Row{Key: "k", Cells: cells})
			want["k"] = rowOf("k", number)
			got, _ := m.Get("k")
			c := m.Copy()
			if !slices.Equal(whole, before) || !probe.Apart(whole, got.Cells) || slices.Contains(got.Cells[:cap(got.Cells)], spare) {
				t.Fatalf("Set has changed what it was given, or handed it out: %v, %v", whole, got)
			}
			spoil(api.Row{Cells: whole})
			wantAll(t, m, want)
			wantAll(t, c, want)
		}
	}
}

func TestHandedOutIsNew(t *testing.T) { // rule 4
	for _, order := range orders(keysOf(150)) {
		m, want := filled(t, order)
		c := m.Copy()
		scans := [][]api.Row{m.Scan("", "", 1000), m.Scan("", "", 1000), c.Scan("", "", 1000), m.Scan("", "", 20), m.Scan("k00070", "k00090", 1000)}
		if !probe.Apart(scans...) {
			t.Fatal("lists of rows share memory")
		}
		lists := map[string][][]api.Cell{}
		for _, r := range slices.Concat(scans...) {
			lists[r.Key] = append(lists[r.Key], r.Cells)
		}
		for _, key := range order {
			r, _ := m.Get(key)
			again, _ := m.Get(key)
			other, _ := c.Get(key)
			if !probe.Apart(append(lists[key], r.Cells, again.Cells, other.Cells)...) {
				t.Fatalf("cells of %q share memory", key)
			}
			spoil(r)
			spoil(other)
		}
		first := scans[0]
		for i := range first[1:] {
			if !probe.Apart(first[i].Cells, first[i+1].Cells) {
				t.Fatalf("cells of %q and of the next row share memory", first[i].Key)
			}
		}
		for _, l := range scans {
			for i := range l[:cap(l)] {
				spoil(l[:cap(l)][i])
				l[:cap(l)][i] = api.Row{Key: "spoilt"}
			}
		}
		wantAll(t, m, want)
		wantAll(t, c, want)
	}
}
