package merkle_test

import (
	"crypto/sha256"
	"encoding/hex"
	"fmt"
	"math"
	"slices"
	"strings"
	"testing"

	"gemel/api"
	"gemel/merkle"
	"gemel/model"
	"gemel/probe"
	"gemel/row"
)

// schemas are some of 1 to MaxGroups groups.
var schemas = probe.Schemas()

// paths tells all paths of so many numbers, in order.
func paths(size int) [][]int {
	if size == 0 {
		return [][]int{nil}
	}
	var out [][]int
	for _, path := range paths(size - 1) {
		for n := range 16 {
			out = append(out, slices.Concat(path, []int{n}))
		}
	}
	return out
}

// allPaths tells all paths.
func allPaths() [][]int {
	return slices.Concat(paths(0), paths(1), paths(2))
}

// noPaths are lists of numbers that are none.
func noPaths() [][]int {
	out := [][]int{{1, 2, 3}, {0, 0, 0}, {1, 2, 99}, {99, 1, 2}, make([]int, 4), make([]int, 1000)}
	for _, n := range []int{16, 17, 255, 256, -1, -16, 1 << 32, 1<<32 + 1, math.MinInt, math.MaxInt} {
		out = append(out, []int{n}, []int{n, 0}, []int{0, n}, []int{15, n}, []int{n, n}, []int{n, 15}, []int{n, 0, 0})
	}
	return out
}

// pathOf tells in another way than the program does what a key's path is to be.
func pathOf(key string) []int {
	first := sha256.Sum256([]byte(key))[0]
	return []int{int(first >> 4), int(first & 15)}
}

// under tells in another way than the program does which rows are under a path.
func under(rows []api.Row, path []int) []api.Row {
	var out []api.Row
	for _, r := range rows {
		if key := pathOf(r.Key); len(path) == 0 || key[0] == path[0] && (len(path) == 1 || key[1] == path[1]) {
			out = append(out, r)
		}
	}
	return out
}

// name tells a path as a text.
func name(path []int) string {
	return fmt.Sprint(append([]int{}, path...))
}

// sumsOf tells in another way than the program does what all digests are to be, by their paths' names.
func sumsOf(l []api.Group, rows []api.Row) map[string]api.Digest {
	bytes, out := map[string][]byte{}, map[string]api.Digest{}
	for _, r := range rows {
		leaf := name(pathOf(r.Key))
		bytes[leaf] = append(bytes[leaf], row.Put(nil, l, r)...)
	}
	for _, path := range paths(2) {
		out[name(path)] = sha256.Sum256(append([]byte{0}, bytes[name(path)]...))
	}
	for size := 1; size >= 0; size-- {
		for _, path := range paths(size) {
			b := []byte{1}
			for n := range 16 {
				d := out[name(append(slices.Clone(path), n))]
				b = append(b, d[:]...)
			}
			out[name(path)] = sha256.Sum256(b)
		}
	}
	return out
}

// many tells a state of so many rows, several of them under most leaves.
func many(l []api.Group, count int) []api.Row {
	var out []api.Row
	for i := range count {
		c := api.Cell{Stamp: api.Stamp{N: 1 + i, Site: 1 + i%2}, Vec: api.Vec{i, i / 2}, Value: strings.Repeat("v", i%65)}
		out = append(out, probe.One(l, fmt.Sprintf("key%d", 1000+i), i%len(l), c))
	}
	return out
}

// states tells some of a schema.
func states(l []api.Group) [][]api.Row {
	return append(probe.States(l), many(l, 1), many(l, 20), many(l, 700))
}

// short tells something as a text that can be read in a test's answer, however long it is.
func short(x any) string {
	return fmt.Sprintf("%.400s", fmt.Sprint(x))
}

// tree makes a tree.
func tree(t *testing.T, l []api.Group, rows []api.Row) *merkle.Tree {
	t.Helper()
	x, e := merkle.New(l, rows)
	if x == nil || e != api.OK {
		t.Fatalf("New(%v, %s): %d", l, short(rows), int(e))
	}
	return x
}

// wantTree wants that a tree tells just what is to be told of rows.
func wantTree(t *testing.T, x *merkle.Tree, l []api.Group, rows []api.Row) {
	t.Helper()
	if x.Len() != len(rows) {
		t.Fatalf("Len %d of %d rows", x.Len(), len(rows))
	}
	sums := sumsOf(l, rows)
	for _, path := range allPaths() {
		wantSum(t, x, path, sums[name(path)])
		wantRows(t, x, path, under(rows, path))
		if len(path) == 2 {
			wantNone(t, "Sums", path, x.Sums, api.ErrTree)
			continue
		}
		var want []api.Digest
		for n := range 16 {
			want = append(want, sums[name(append(slices.Clone(path), n))])
		}
		if got, e := x.Sums(path); !slices.Equal(got, want) || e != api.OK {
			t.Fatalf("Sums(%v) = %s, %d, want %s", path, short(got), int(e), short(want))
		}
	}
}

// wantSum wants that digest of a path.
func wantSum(t *testing.T, x *merkle.Tree, path []int, want api.Digest) {
	t.Helper()
	if got, e := x.Sum(path); got != want || e != api.OK {
		t.Fatalf("Sum(%v) = %x, %d, want %x", path, got, int(e), want)
	}
}

// wantRows wants just these rows of a path.
func wantRows(t *testing.T, x *merkle.Tree, path []int, want []api.Row) {
	t.Helper()
	if got, e := x.Rows(path); !probe.SameRows(got, want) || e != api.OK {
		t.Fatalf("Rows(%v) = %s, %d, want %s", path, short(got), int(e), short(want))
	}
}

// wantNone wants that a call tells an error alone.
func wantNone[T any](t *testing.T, what string, path []int, call func([]int) ([]T, api.Errno), want api.Errno) {
	t.Helper()
	if got, e := call(path); len(got) != 0 || e != want {
		t.Fatalf("%s(%s) = %s, %d, want %d", what, short(path), short(got), int(e), int(want))
	}
}

// wantRefused wants that a tree tells an error of a path, and nothing else.
func wantRefused(t *testing.T, x *merkle.Tree, path []int, want api.Errno) {
	t.Helper()
	if d, e := x.Sum(path); d != (api.Digest{}) || e != want {
		t.Fatalf("Sum(%s) = %x, %d, want %d", short(path), d, int(e), int(want))
	}
	wantNone(t, "Sums", path, x.Sums, want)
	wantNone(t, "Rows", path, x.Rows, want)
}

// wantDiff wants just these paths of two trees, whichever is the first one.
func wantDiff(t *testing.T, a, b *merkle.Tree, want [][]int) {
	t.Helper()
	for _, got := range [][][]int{merkle.Diff(a, b), merkle.Diff(b, a)} {
		if !slices.EqualFunc(got, want, slices.Equal) {
			t.Fatalf("Diff = %s, want %s", short(got), short(want))
		}
	}
}

func TestPath(t *testing.T) { // P24.1
	for key, want := range map[string][]int{"k": {8, 2}, "": {14, 3}, "abc": {11, 10}} { // the chapter's example first
		if got := merkle.Path(key); !slices.Equal(got, want) {
			t.Errorf("Path(%q) = %v, want %v", key, got, want)
		}
	}
	met := map[string]int{}
	for i := range 3000 { // keys of all lengths, those of no row among them
		key := strings.Repeat("\x00\xffé", i%40) + fmt.Sprint(i)
		if got := merkle.Path(key); !slices.Equal(got, pathOf(key)) {
			t.Fatalf("Path(%q) = %v, want %v", key, got, pathOf(key))
		}
		met[name(merkle.Path(key))]++
	}
	if len(met) != 256 {
		t.Errorf("%d paths of 256", len(met))
	}
}

func TestKnownDigests(t *testing.T) { // P24.1: digests that were reckoned by another program
	l := schemas[2]
	k := api.Row{Key: "k", Cells: []api.Cell{{Stamp: api.Stamp{N: 6, Site: 2}, Vec: api.Vec{0, 1}, Value: "x"}, {}}}
	const emptyLeaf, emptyInner = "6e340b9cffb37a989ca544e6bb780a2c78901d3fb33738768511a30617afa01d", "b6d4beaa7c8d8cfc9b043c025270bc712bcc89eb2bad8392094597fc1b0a22a5"
	for _, x := range []struct {
		rows []api.Row
		path []int
		want string
	}{
		{nil, nil, "97b7e0a5911011956948c52a1c968e92ac99e4952415416f805e65e1a3eb53f5"},
		{nil, []int{8}, emptyInner},
		{nil, []int{8, 2}, emptyLeaf},
		{[]api.Row{k}, nil, "a4cdc27df7833b0a08aff570b307bb52d3b7b634e4818e37bba27bb00c0bebaa"},
		{[]api.Row{k}, []int{8}, "999a3cea65dcb3526e2f8bd563709cb053fdf2765333544347e530bae88c3ac0"},
		{[]api.Row{k}, []int{8, 2}, "da55f34d441e76d4233bd9bb80d4635a2f12d3fed77b25e70a9f3e60cc4cf891"},
		{[]api.Row{k}, []int{2}, emptyInner},
		{[]api.Row{k}, []int{2, 8}, emptyLeaf},
		{[]api.Row{k}, []int{8, 3}, emptyLeaf},
	} {
		if d, e := tree(t, l, x.rows).Sum(x.path); hex.EncodeToString(d[:]) != x.want || e != api.OK {
			t.Errorf("Sum(%v) of %v = %x, %d, want %s", x.path, x.rows, d, int(e), x.want)
		}
	}
}

func TestTree(t *testing.T) { // P24.1
	for _, l := range schemas {
		for _, rows := range states(l) {
			wantTree(t, tree(t, l, rows), l, rows)
		}
		wantTree(t, tree(t, l, []api.Row{}), l, nil)
	}
}

func TestPathErrors(t *testing.T) { // P24.1
	for _, rows := range [][]api.Row{nil, many(schemas[2], 20)} {
		x := tree(t, schemas[2], rows)
		for range 2 {
			for _, path := range noPaths() {
				wantRefused(t, x, path, api.ErrTree)
			}
			for _, path := range paths(2) {
				wantNone(t, "Sums", path, x.Sums, api.ErrTree)
			}
			wantTree(t, x, schemas[2], rows)
		}
	}
}

func TestNewErrors(t *testing.T) { // P24.1: model's
	none := func(l []api.Group, rows []api.Row, want api.Errno) {
		t.Helper()
		if x, e := merkle.New(l, rows); x != nil || e != want {
			t.Fatalf("New(%v, %v): a tree %t, %d, want %d", l, rows, x != nil, int(e), int(want))
		}
	}
	for _, l := range schemas {
		for _, rows := range probe.NoStates(l) {
			none(l, rows, model.Good(l, rows))
		}
		for _, x := range probe.NoSchemas() {
			for _, rows := range append(probe.NoStates(l), nil, many(l, 3)) {
				none(x.Groups, rows, x.Err)
			}
		}
	}
}

func TestNoTree(t *testing.T) { // a Tree that no call made, whatever it is asked
	var none *merkle.Tree
	var zero merkle.Tree
	refused, _ := merkle.New(nil, nil)
	some := tree(t, schemas[2], many(schemas[2], 20))
	for _, x := range []*merkle.Tree{none, &zero, {}, refused} {
		for range 2 {
			for _, path := range append(noPaths(), allPaths()...) {
				wantRefused(t, x, path, api.ErrNil)
			}
			if x.Len() != 0 {
				t.Errorf("Len %d", x.Len())
			}
			wantDiff(t, x, some, nil)
			wantDiff(t, x, x, nil)
			wantDiff(t, x, nil, nil)
			wantDiff(t, x, &merkle.Tree{}, nil)
		}
	}
}

// differing tells in another way than the program does which leaves' rows differ.
func differing(a, b []api.Row) [][]int {
	var leaves [2][16][16][]api.Row
	for i, rows := range [][]api.Row{a, b} {
		for _, r := range rows {
			leaf := &leaves[i][pathOf(r.Key)[0]][pathOf(r.Key)[1]]
			*leaf = append(*leaf, r)
		}
	}
	var out [][]int
	for _, path := range paths(2) {
		if !probe.SameRows(leaves[0][path[0]][path[1]], leaves[1][path[0]][path[1]]) {
			out = append(out, path)
		}
	}
	return out
}

func TestDiff(t *testing.T) { // P24.2 and P24.4
	for _, l := range schemas {
		var lists [][]api.Row
		for i, rows := range append(states(l)[:12], many(l, 40), many(l, 200)) {
			lists = append(lists, rows)
			if len(rows) > 2 { // without one, with one, with one cell that is another one
				other := slices.Clone(rows)
				at := i % len(rows)
				other[at] = api.Row{Key: other[at].Key, Cells: slices.Clone(other[at].Cells)}
				other[at].Cells[i%len(l)] = api.Cell{Stamp: api.Stamp{N: 9999, Site: 1}}
				lists = append(lists, slices.Delete(slices.Clone(rows), at, at+1), other)
			}
		}
		var trees []*merkle.Tree
		for _, rows := range lists {
			trees = append(trees, tree(t, l, rows))
		}
		for i, a := range trees {
			for j, b := range trees[i:] {
				want := differing(lists[i], lists[i+j])
				wantDiff(t, a, b, want)
				x, _ := a.Sum(nil)
				y, _ := b.Sum(nil)
				if (x == y) != (len(want) == 0) {
					t.Fatalf("the roots' digests are %x and %x, though %s differ", x, y, short(want))
				}
			}
		}
	}
}

func TestDiffOfAll(t *testing.T) { // P24.2: each leaf alone, and all
	l := schemas[0]
	rows := many(l, 3000)
	whole, none := tree(t, l, rows), tree(t, l, nil)
	wantDiff(t, whole, none, paths(2))
	wantDiff(t, whole, tree(t, l, rows), nil)
	for _, path := range paths(2) {
		there := under(rows, path)
		if len(there) == 0 {
			t.Fatalf("no row is under %v", path)
		}
		left := slices.DeleteFunc(slices.Clone(rows), func(r api.Row) bool { return slices.Equal(pathOf(r.Key), path) })
		wantDiff(t, whole, tree(t, l, left), [][]int{path})
		wantDiff(t, none, tree(t, l, there), [][]int{path})
		wantDiff(t, none, tree(t, l, there[:1]), [][]int{path})
	}
}

func TestParts(t *testing.T) { // P24.3
	for _, l := range schemas {
		for _, rows := range states(l) {
			x := tree(t, l, rows)
			for size := range 3 {
				var all []api.Row
				for _, path := range paths(size) {
					part, e := x.Rows(path)
					if e != api.OK || !slices.IsSortedFunc(part, func(a, b api.Row) int { return strings.Compare(a.Key, b.Key) }) {
						t.Fatalf("Rows(%v) = %s, %d", path, short(part), int(e))
					}
					all = append(all, part...)
				}
				slices.SortFunc(all, func(a, b api.Row) int { return strings.Compare(a.Key, b.Key) })
				if !probe.SameRows(all, rows) {
					t.Fatalf("under all paths of %d numbers are %s, want %s", size, short(all), short(rows))
				}
			}
		}
	}
}

func TestAgain(t *testing.T) { // P24.5: in whatever order it is asked
	for _, l := range schemas {
		rows := many(l, 50)
		sums := sumsOf(l, rows)
		x := tree(t, l, rows)
		for range 3 {
			wantTree(t, x, l, rows)
		}
		for _, path := range allPaths() { // each one first
			first := tree(t, l, rows)
			wantSum(t, first, path, sums[name(path)])
			wantSum(t, first, nil, sums[name(nil)])
			wantSum(t, first, path, sums[name(path)])
		}
		for _, first := range []func(x *merkle.Tree){
			func(x *merkle.Tree) { x.Sums([]int{3}) },
			func(x *merkle.Tree) { x.Rows(nil) },
			func(x *merkle.Tree) { merkle.Diff(x, tree(t, l, nil)) },
			func(x *merkle.Tree) { merkle.Diff(nil, x) },
			func(x *merkle.Tree) { x.Sum([]int{16}) },
		} {
			x := tree(t, l, rows)
			first(x)
			wantTree(t, x, l, rows)
		}
	}
}

func TestTreesApart(t *testing.T) { // rule 5: a tree tells of its own rows alone
	l := schemas[2]
	var trees []*merkle.Tree
	for _, rows := range states(l) {
		trees = append(trees, tree(t, l, rows))
	}
	for i, rows := range states(l) {
		wantTree(t, trees[i], l, rows)
	}
}

func TestHandedInStays(t *testing.T) { // P24.5, and rules 4 and 8
	for _, l := range schemas {
		for _, plain := range states(l) {
			groups, allGroups := probe.Roomy(l, api.Group{Name: "spare", Policy: api.LastWins})
			groupsBefore := slices.Clone(allGroups)
			rows, stays := probe.RoomyRows(l, plain)
			early, late := tree(t, groups, rows), tree(t, groups, rows)
			wantTree(t, early, l, plain)
			if !stays() || !slices.Equal(allGroups, groupsBefore) {
				t.Fatalf("the memory of %s was changed", short(plain))
			}
			for _, r := range rows {
				clear(r.Cells[:cap(r.Cells)])
			}
			clear(rows)
			clear(allGroups)
			wantTree(t, early, l, plain)
			wantTree(t, late, l, plain) // it was asked nothing ahead of that
			wantDiff(t, early, late, nil)
		}
		for _, rows := range probe.NoStates(l) {
			bad, stays := probe.RoomyRows(l, rows)
			if x, e := merkle.New(l, bad); x != nil || e != model.Good(l, rows) || !stays() {
				t.Fatalf("New of %v: %d", rows, int(e))
			}
		}
	}
	x := tree(t, schemas[2], many(schemas[2], 50))
	for _, plain := range append(noPaths(), allPaths()...) {
		path, whole := probe.Roomy(plain, 3)
		before := slices.Clone(whole)
		want, wantE := x.Sum(plain)
		if got, e := x.Sum(path); got != want || e != wantE {
			t.Fatalf("Sum(%v) hangs on spare room", plain)
		}
		sums, _ := x.Sums(path)
		wantSums, _ := x.Sums(plain)
		rows, _ := x.Rows(path)
		there, _ := x.Rows(plain)
		if !slices.Equal(sums, wantSums) || !probe.SameRows(rows, there) || !slices.Equal(whole, before) {
			t.Fatalf("Sums or Rows of %v hang on spare room, or have changed it", plain)
		}
	}
}

func TestHandedOutIsNew(t *testing.T) { // rule 4, and P24.5: what was told may be changed, too
	for _, l := range schemas {
		rows := many(l, 60)
		x, empty := tree(t, l, rows), tree(t, l, nil)
		var sums [][]api.Digest
		lists := [][]api.Row{rows}
		ways := [][]int{merkle.Path("k"), merkle.Path("k"), merkle.Path("")}
		for range 2 {
			for _, path := range slices.Concat(paths(0), paths(1)[:4], paths(2)[:40]) {
				told, _ := x.Sums(path)
				part, _ := x.Rows(path)
				sums, lists = append(sums, told), append(lists, part)
			}
			diff := merkle.Diff(x, empty)
			ways = append(ways, diff...)
			if again := merkle.Diff(x, empty); !probe.Apart(diff, again) {
				t.Fatal("lists of Diff share memory")
			}
		}
		var cells [][]api.Cell
		for _, rows := range lists {
			for _, r := range rows {
				cells = append(cells, r.Cells)
			}
		}
		if !probe.Apart(sums...) || !probe.Apart(lists...) || !probe.Apart(cells...) || !probe.Apart(ways...) {
			t.Fatal("what is handed out shares memory")
		}
		want := many(l, 60)
		for _, c := range cells {
			clear(c[:cap(c)])
		}
		for _, d := range sums {
			clear(d[:cap(d)])
		}
		for _, path := range ways {
			clear(path[:cap(path)])
		}
		wantTree(t, x, l, want)
		wantDiff(t, x, empty, differing(want, nil))
		if !slices.Equal(merkle.Path("k"), []int{8, 2}) {
			t.Errorf("Path(k) = %v", merkle.Path("k"))
		}
	}
}
