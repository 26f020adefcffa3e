package join_test

import (
	"bytes"
	"cmp"
	"math"
	"math/rand/v2"
	"slices"
	"strings"
	"testing"

	"gemel/api"
	"gemel/cell"
	"gemel/join"
	"gemel/probe"
)

const (
	last = api.LastWins
	del  = api.DeleteWins
)

// zero is the cell of nothing.
var zero api.Cell

// rising are values, each ahead of those behind it.
var rising = []string{"", "\x00", "\x00\x00", "\x00\xff", "0", "9", "A", "Z", "Za", "a", "a\x00", "a0", "aa", "aaaa", "ab", "ab\xff", "b", "z", "\x7f", "\x7f\xff", "\x80", "\xc3", "é", "\xc3\xaa", "\xfe\xff", "\xff", "\xff\x00", "\xff\xff"}

// put and gone tell cells of a write, dead one without.
func put(n, site int, v api.Vec, value string) api.Cell {
	return api.Cell{Stamp: api.Stamp{N: n, Site: site}, Vec: v, Value: value}
}

func gone(n, site int, v api.Vec) api.Cell {
	return api.Cell{Stamp: api.Stamp{N: n, Site: site}, Vec: v, Gone: true}
}

func dead(a, b int) api.Cell {
	return api.Cell{Dead: api.Vec{a, b}}
}

// over tells a cell's write, with another Dead.
func over(c api.Cell, a, b int) api.Cell {
	c.Dead = api.Vec{a, b}
	return c
}

// order tells in another way than the program does how two writes stand: below 0, if a's stands ahead.
func order(a, b api.Cell) int {
	sign := func(c api.Cell) int {
		if c.Gone {
			return 1
		}
		return 0
	}
	return cmp.Or(cmp.Compare(a.Stamp.N, b.Stamp.N), cmp.Compare(a.Stamp.Site, b.Stamp.Site), sign(a)-sign(b), bytes.Compare([]byte(a.Value), []byte(b.Value)), slices.Compare(a.Vec[:], b.Vec[:]))
}

// joined tells in another way than the program does what a join is to be.
func joined(l ...api.Cell) api.Cell {
	out := slices.MaxFunc(append([]api.Cell{zero}, l...), order)
	out.Dead = api.Vec{}
	for i := range out.Dead {
		for _, c := range l {
			if c.Dead[i] > out.Dead[i] {
				out.Dead[i] = c.Dead[i]
			}
		}
	}
	return out
}

// most tells cells of all these parts, most of which may not be.
func most() []api.Cell {
	stamps := []api.Stamp{{}, {N: 5, Site: 1}, {N: 5, Site: 2}, {N: 6, Site: 1}, {N: 5}, {N: 5, Site: 3}, {N: 0, Site: -1}, {N: -1, Site: 2}, {N: api.MaxCount + 1, Site: 1}, {N: math.MinInt, Site: math.MaxInt}, {N: math.MaxInt, Site: math.MinInt}}
	vecs := []api.Vec{{}, {0, 1}, {1, 0}, {-1, 2}, {math.MaxInt, math.MinInt}, {api.MaxSeq + 1, 7}}
	var out []api.Cell
	for _, s := range stamps {
		for _, value := range []string{"", "x", "xy", "\xff", strings.Repeat("v", 65)} {
			for _, v := range vecs {
				c := api.Cell{Stamp: s, Vec: v, Value: value}
				g := c
				g.Gone = true
				out = append(out, c, g)
			}
		}
	}
	return out
}

// some tells cells that may be, of a policy, many of which are near one another; always the same ones.
func some(policy int) []api.Cell {
	out := []api.Cell{zero, put(5, 1, api.Vec{1, 0}, "x"), put(5, 1, api.Vec{1, 0}, "xy"), put(5, 1, api.Vec{1, 1}, "x"), put(5, 1, api.Vec{2, 0}, "x"), put(5, 1, api.Vec{}, ""), put(5, 2, api.Vec{0, 1}, "x"), put(6, 1, api.Vec{1, 2}, "\xff"), put(api.MaxCount, 2, api.Vec{api.MaxSeq, api.MaxSeq}, strings.Repeat("v", api.MaxValue))}
	if policy == last {
		return append(out, gone(5, 1, api.Vec{1, 0}), gone(5, 1, api.Vec{0, 1}), gone(5, 2, api.Vec{0, 1}), gone(6, 1, api.Vec{1, 2}), gone(1, 1, api.Vec{1, 0}), gone(api.MaxCount, 1, api.Vec{}))
	}
	return append(out, dead(1, 0), dead(0, 1), dead(2, 1), dead(1, 2), dead(api.MaxSeq, 0), over(out[1], 0, 1), over(out[1], 1, 0), over(out[6], 1, 1), over(out[7], 0, 3))
}

// orders tells cells in every order.
func orders(l []api.Cell) [][]api.Cell {
	if len(l) == 0 {
		return [][]api.Cell{nil}
	}
	var out [][]api.Cell
	for i, c := range l {
		for _, rest := range orders(slices.Concat(l[:i], l[i+1:])) {
			out = append(out, append([]api.Cell{c}, rest...))
		}
	}
	return out
}

func wantLess(t *testing.T, a, b api.Cell, want bool) {
	t.Helper()
	if got := join.Less(a, b); got != want {
		t.Fatalf("Less(%.80v, %.80v) = %t", a, b, got)
	}
}

// wantAhead wants that a's write stands ahead of b's, whatever their Deads are.
func wantAhead(t *testing.T, a, b api.Cell) {
	t.Helper()
	for _, d := range []api.Vec{{}, {3, 0}, {0, 4}, {-1, math.MaxInt}} {
		wantLess(t, a, over(b, d[0], d[1]), true)
		wantLess(t, over(a, d[0], d[1]), b, true)
		wantLess(t, b, over(a, d[0], d[1]), false)
		wantLess(t, over(b, d[0], d[1]), a, false)
	}
}

func TestLessInOneThing(t *testing.T) { // P9.1
	wantAhead(t, put(5, 2, api.Vec{1, 1}, "x"), put(6, 2, api.Vec{1, 1}, "x"))
	wantAhead(t, put(9, 2, api.Vec{1, 1}, "x"), put(10, 2, api.Vec{1, 1}, "x"))
	wantAhead(t, put(5, 1, api.Vec{1, 1}, "x"), put(5, 2, api.Vec{1, 1}, "x"))
	wantAhead(t, put(5, 2, api.Vec{1, 1}, ""), gone(5, 2, api.Vec{1, 1}))
	wantAhead(t, put(5, 2, api.Vec{1, 1}, "x"), put(5, 2, api.Vec{1, 1}, "y"))
	wantAhead(t, put(5, 2, api.Vec{1, 1}, "x"), put(5, 2, api.Vec{2, 1}, "x"))
	wantAhead(t, put(5, 2, api.Vec{1, 1}, "x"), put(5, 2, api.Vec{1, 2}, "x"))
	wantAhead(t, gone(5, 2, api.Vec{1, 1}), gone(5, 2, api.Vec{2, 1}))
	wantAhead(t, gone(5, 2, api.Vec{1, 1}), gone(5, 2, api.Vec{1, 2}))
	wantAhead(t, zero, put(1, 1, api.Vec{}, ""))
	for _, c := range []api.Cell{zero, put(5, 2, api.Vec{1, 1}, "x"), gone(5, 2, api.Vec{1, 1}), dead(2, 2), over(put(5, 2, api.Vec{1, 1}, "x"), 1, 2)} { // nothing, or Dead alone
		for _, d := range []api.Vec{c.Dead, {}, {1, 0}, {0, 1}, {9, 9}, {-1, -1}} {
			wantLess(t, c, over(c, d[0], d[1]), false)
			wantLess(t, over(c, d[0], d[1]), c, false)
		}
	}
}

func TestLessInSeveral(t *testing.T) { // P9.1: what is named first decides
	wantAhead(t, api.Cell{Stamp: api.Stamp{N: 5, Site: 2}, Gone: true, Value: "y", Vec: api.Vec{9, 9}}, put(6, 1, api.Vec{1, 1}, "x"))
	wantAhead(t, api.Cell{Stamp: api.Stamp{N: 5, Site: 1}, Gone: true, Value: "y", Vec: api.Vec{9, 9}}, put(5, 2, api.Vec{1, 1}, "x"))
	wantAhead(t, put(5, 2, api.Vec{9, 9}, "y"), api.Cell{Stamp: api.Stamp{N: 5, Site: 2}, Gone: true, Value: "x", Vec: api.Vec{1, 1}})
	wantAhead(t, put(5, 2, api.Vec{9, 9}, "y"), gone(5, 2, api.Vec{1, 1}))
	wantAhead(t, put(5, 2, api.Vec{9, 9}, "x"), put(5, 2, api.Vec{1, 1}, "y"))
	wantAhead(t, put(5, 2, api.Vec{9, 9}, "x"), put(5, 2, api.Vec{1, 1}, "xx"))
	wantAhead(t, put(5, 2, api.Vec{1, 9}, "x"), put(5, 2, api.Vec{2, 1}, "x"))
	wantAhead(t, gone(5, 2, api.Vec{1, 9}), gone(5, 2, api.Vec{2, 1}))
	wantAhead(t, api.Cell{Stamp: api.Stamp{N: 5, Site: 2}, Gone: true, Value: "x", Vec: api.Vec{9, 9}}, api.Cell{Stamp: api.Stamp{N: 5, Site: 2}, Gone: true, Value: "y"})
}

func TestLessByValue(t *testing.T) { // P9.1
	for i, a := range rising {
		for k, b := range rising {
			wantLess(t, put(5, 1, api.Vec{1, 1}, a), put(5, 1, api.Vec{1, 1}, b), i < k)
			wantLess(t, api.Cell{Gone: true, Value: a}, api.Cell{Gone: true, Value: b}, i < k)
			wantLess(t, put(5, 1, api.Vec{1, 1}, strings.Repeat("v", 70)+a), put(5, 1, api.Vec{1, 1}, strings.Repeat("v", 70)+b), i < k)
		}
	}
}

func TestLessOfAny(t *testing.T) { // P9.1: cells that may not be, too
	wantAhead(t, put(-1, 1, api.Vec{}, ""), zero)
	wantAhead(t, put(math.MinInt, 2, api.Vec{}, ""), put(math.MinInt+1, 1, api.Vec{}, ""))
	wantAhead(t, put(math.MinInt, 1, api.Vec{}, ""), put(math.MaxInt, 1, api.Vec{}, ""))
	wantAhead(t, put(api.MaxCount, 2, api.Vec{}, ""), put(api.MaxCount+1, 1, api.Vec{}, ""))
	wantAhead(t, put(5, 0, api.Vec{}, ""), put(5, 1, api.Vec{}, ""))
	wantAhead(t, put(5, 2, api.Vec{}, ""), put(5, 3, api.Vec{}, ""))
	wantAhead(t, put(5, math.MinInt, api.Vec{}, ""), put(5, math.MaxInt, api.Vec{}, ""))
	wantAhead(t, put(0, -1, api.Vec{}, ""), zero)
	wantAhead(t, zero, put(0, 0, api.Vec{}, "x"))
	wantAhead(t, zero, gone(0, 0, api.Vec{}))
	wantAhead(t, zero, put(0, 0, api.Vec{1, -1}, ""))
	wantAhead(t, put(0, 0, api.Vec{-1, 1}, ""), zero)
	wantAhead(t, put(0, 0, api.Vec{0, -1}, ""), zero)
	wantAhead(t, put(5, 1, api.Vec{-2, 9}, "x"), put(5, 1, api.Vec{-1, 0}, "x"))
	wantAhead(t, put(5, 1, api.Vec{1, math.MinInt}, "x"), put(5, 1, api.Vec{1, math.MaxInt}, "x"))
	wantAhead(t, put(5, 1, api.Vec{api.MaxSeq, 9}, "x"), put(5, 1, api.Vec{api.MaxSeq + 1, 0}, "x"))
	cells := most()
	for _, a := range cells {
		for _, b := range cells {
			wantLess(t, a, b, order(a, b) < 0)
		}
	}
}

func wantJoin(t *testing.T, want api.Cell, l ...api.Cell) {
	t.Helper()
	if got := join.Join(l...); got != want {
		t.Fatalf("Join(%.200v) = %.80v, want %.80v", l, got, want)
	}
}

func TestJoin(t *testing.T) { // P9.2
	x, y := put(5, 1, api.Vec{1, 0}, "x"), put(6, 1, api.Vec{2, 0}, "y")
	wantJoin(t, zero)
	wantJoin(t, zero, []api.Cell{}...)
	for _, c := range []api.Cell{zero, x, y, gone(5, 2, api.Vec{0, 1}), dead(1, 2), over(x, 3, 1)} {
		wantJoin(t, c, c)
		wantJoin(t, c, c, c)
		wantJoin(t, c, c, c, c, c, c, c)
		wantJoin(t, c, zero, c)
		wantJoin(t, c, c, zero)
		wantJoin(t, c, zero, c, zero, c, zero)
	}
	wantJoin(t, zero, zero, zero, zero)
	wantJoin(t, y, x, y)
	wantJoin(t, y, y, x)
	wantJoin(t, y, x, zero, y)
	wantJoin(t, y, zero, y, zero, x, zero)
	wantJoin(t, over(y, 2, 3), over(x, 2, 1), over(y, 1, 3))
	wantJoin(t, over(y, 2, 3), over(y, 1, 3), over(x, 2, 1))
	wantJoin(t, over(y, 2, 3), dead(2, 1), y, dead(1, 3), x)
	wantJoin(t, over(y, 2, 3), over(y, 2, 0), over(y, 0, 3))
	wantJoin(t, dead(7, 8), dead(7, 0), dead(0, 8), zero)
	wantJoin(t, over(x, 1, 1), over(x, 1, 0), dead(0, 1))
	wantJoin(t, put(5, 1, api.Vec{1, 2}, "x"), put(5, 1, api.Vec{1, 1}, "x"), put(5, 1, api.Vec{1, 2}, "x"), put(5, 1, api.Vec{0, 9}, "x"))
	var many []api.Cell
	for i := range 200 {
		many = append(many, over(put(1+i*7%200, 1+i%2, api.Vec{i, 0}, "x"), i*3%200, i*11%200))
	}
	wantJoin(t, over(put(200, 2, api.Vec{57, 0}, "x"), 199, 199), many...)
}

func TestJoinOfAny(t *testing.T) { // P9.2: cells that may not be, too
	for _, c := range []api.Cell{put(-1, 1, api.Vec{1, 1}, "x"), put(0, -1, api.Vec{1, 1}, "x"), put(math.MinInt, 2, api.Vec{}, ""), put(0, 0, api.Vec{-1, 5}, ""), gone(-1, 3, api.Vec{1, 1})} { // they stand ahead of no write
		wantJoin(t, zero, c)
		wantJoin(t, zero, c, c)
		wantJoin(t, zero, zero, c)
		wantJoin(t, dead(2, 3), over(c, 2, -1), over(c, -1, 3))
		wantJoin(t, put(5, 1, api.Vec{1, 0}, "x"), c, put(5, 1, api.Vec{1, 0}, "x"), c)
	}
	wantJoin(t, zero, dead(-1, -2))
	wantJoin(t, dead(0, 4), dead(-1, 4))
	wantJoin(t, dead(0, 0), dead(math.MinInt, math.MinInt), dead(-1, math.MinInt))
	wantJoin(t, dead(math.MaxInt, api.MaxSeq+1), dead(math.MaxInt, 0), dead(5, api.MaxSeq+1))
	wantJoin(t, over(put(math.MaxInt, 3, api.Vec{-1, -1}, "x"), 0, 0), put(math.MaxInt, 2, api.Vec{9, 9}, "x"), over(put(math.MaxInt, 3, api.Vec{-1, -1}, "x"), -7, -7))
	wantJoin(t, api.Cell{Gone: true, Value: "x"}, api.Cell{Value: "y"}, api.Cell{Gone: true, Value: "x"}, api.Cell{Gone: true})
	cells := most()
	deads := []api.Vec{{}, {1, 0}, {0, 1}, {2, -1}, {-3, 5}, {math.MinInt, math.MaxInt}}
	r := rand.New(rand.NewPCG(51, 52))
	for range 20000 {
		l := make([]api.Cell, r.IntN(6))
		for i := range l {
			d := deads[r.IntN(len(deads))]
			l[i] = over(cells[r.IntN(len(cells))], d[0], d[1])
		}
		want := joined(l...)
		wantJoin(t, want, l...)
		slices.Reverse(l)
		wantJoin(t, want, l...)
	}
}

func wantWithin(t *testing.T, a, b api.Cell, want bool) {
	t.Helper()
	if got := join.Within(a, b); got != want {
		t.Fatalf("Within(%.80v, %.80v) = %t", a, b, got)
	}
}

func TestWithin(t *testing.T) { // P9.2
	x, y := put(5, 1, api.Vec{1, 0}, "x"), put(6, 2, api.Vec{1, 1}, "y")
	for _, c := range []api.Cell{zero, x, y, gone(5, 2, api.Vec{0, 1}), dead(1, 2), over(x, 3, 1)} {
		wantWithin(t, c, c, true)
		wantWithin(t, zero, c, true)
		wantWithin(t, c, zero, c == zero)
	}
	wantWithin(t, x, y, true)
	wantWithin(t, y, x, false)
	wantWithin(t, x, gone(5, 1, api.Vec{1, 0}), true)
	wantWithin(t, gone(5, 1, api.Vec{1, 0}), x, false)
	wantWithin(t, x, put(5, 1, api.Vec{1, 0}, "xy"), true)
	wantWithin(t, x, put(5, 1, api.Vec{0, 9}, "x"), false)
	wantWithin(t, x, put(5, 1, api.Vec{1, 1}, "x"), true)
	wantWithin(t, dead(1, 2), dead(1, 2), true) // a Dead that is covered, and one that is not
	wantWithin(t, dead(1, 2), dead(1, 3), true)
	wantWithin(t, dead(1, 2), dead(2, 2), true)
	wantWithin(t, dead(1, 2), dead(0, 3), false)
	wantWithin(t, dead(1, 2), dead(9, 1), false)
	wantWithin(t, dead(1, 2), over(y, 1, 2), true)
	wantWithin(t, dead(1, 2), y, false)
	wantWithin(t, over(x, 1, 2), over(y, 1, 2), true)
	wantWithin(t, over(x, 1, 2), over(y, 2, 1), false) // a write that is within, a Dead that is not
	wantWithin(t, over(y, 1, 2), over(x, 2, 2), false) // the other way round
	wantWithin(t, x, over(y, 7, 7), true)
	wantWithin(t, over(y, 7, 7), dead(7, 7), false)
	for _, c := range []api.Cell{dead(-1, 0), dead(0, -1), put(-1, 1, api.Vec{}, "x"), over(x, -1, 3)} { // no join is one of these
		wantWithin(t, c, c, false)
		wantWithin(t, zero, c, false)
	}
	wantWithin(t, dead(-1, -5), zero, true)
	wantWithin(t, put(-1, 1, api.Vec{9, 9}, "x"), zero, true)
	wantWithin(t, put(0, -1, api.Vec{}, ""), dead(1, 0), true)
	cells := most()
	for i, a := range cells {
		for k, b := range cells {
			a, b := over(a, i%3-1, 1), over(b, k%4-1, k%2)
			wantWithin(t, a, b, joined(a, b) == b)
		}
	}
}

func TestExamples(t *testing.T) { // P9.2: the chapter's examples
	x, g := put(5, 1, api.Vec{1, 0}, "x"), gone(5, 2, api.Vec{0, 1})
	later := put(6, 1, api.Vec{2, 0}, "x")
	wantJoin(t, g, x, g)
	wantJoin(t, g, g, x)
	wantJoin(t, later, later, g)
	wantJoin(t, later, g, later)
	wantWithin(t, x, g, true)
	wantWithin(t, g, x, false)
	wantWithin(t, g, later, true)
	wantWithin(t, later, g, false)
	x, d, y := put(6, 1, api.Vec{1, 0}, "x"), dead(0, 1), put(7, 2, api.Vec{1, 2}, "y")
	wantJoin(t, over(x, 0, 1), x, d)
	wantWithin(t, x, over(x, 0, 1), true)
	wantWithin(t, d, over(x, 0, 1), true)
	wantWithin(t, over(x, 0, 1), x, false)
	if value, ok := cell.Seen(del, join.Join(x, d)); ok {
		t.Fatalf("%q is seen behind a delete of which its writer didn't know", value)
	}
	if value, ok := cell.Seen(del, join.Join(x, d, y)); value != "y" || !ok {
		t.Fatalf("behind a write that knew of all is seen %q, %t", value, ok)
	}
}

func wantNeeded(t *testing.T, l []api.Cell, want ...int) {
	t.Helper()
	if got := join.Needed(l); !slices.Equal(got, want) {
		t.Fatalf("Needed(%.200v) = %v, want %v", l, got, want)
	}
}

func TestNeeded(t *testing.T) { // P9.3
	x, y, g := put(5, 1, api.Vec{1, 0}, "x"), put(6, 1, api.Vec{2, 0}, "y"), gone(5, 2, api.Vec{0, 1})
	wantNeeded(t, nil)
	wantNeeded(t, []api.Cell{})
	wantNeeded(t, []api.Cell{zero})
	wantNeeded(t, []api.Cell{zero, zero, zero})
	wantNeeded(t, []api.Cell{x}, 0)
	wantNeeded(t, []api.Cell{dead(0, 1)}, 0)
	wantNeeded(t, []api.Cell{x, g, y}, 0, 1, 2)
	wantNeeded(t, []api.Cell{y, g, x}, 0)
	wantNeeded(t, []api.Cell{zero, zero, y, zero, x, g}, 2)
	wantNeeded(t, []api.Cell{x, x}, 0)
	wantNeeded(t, []api.Cell{x, y, x, y}, 0, 1)
	wantNeeded(t, []api.Cell{x, zero, x, g, g, y, x}, 0, 3, 5)
	wantNeeded(t, []api.Cell{dead(1, 0), dead(0, 1), dead(1, 1)}, 0, 1)
	wantNeeded(t, []api.Cell{dead(1, 0), dead(0, 1), dead(2, 0)}, 0, 1, 2)
	wantNeeded(t, []api.Cell{dead(1, 1), dead(0, 1), dead(1, 0)}, 0)
	wantNeeded(t, []api.Cell{y, dead(1, 0), over(x, 1, 0), over(x, 0, 1)}, 0, 1, 3)
	wantNeeded(t, []api.Cell{over(x, 1, 0), y, over(y, 1, 0)}, 0, 1)
	wantNeeded(t, []api.Cell{dead(-1, -1), put(-1, 1, api.Vec{}, "x"), put(0, -1, api.Vec{}, ""), x, dead(-1, 0)}, 3)
	wantNeeded(t, []api.Cell{dead(-1, 2), dead(-1, 2), over(x, -4, 1)}, 0, 2)
	var rise, same []api.Cell
	var all []int
	for i := range 100 {
		rise, same, all = append(rise, put(i+1, 1, api.Vec{i, 0}, "x")), append(same, x), append(all, i)
	}
	wantNeeded(t, rise, all...)
	wantNeeded(t, same, 0)
	slices.Reverse(rise)
	wantNeeded(t, rise, 0)
	checkNeeded(t, append(most()[:120], some(del)...))
}

// checkNeeded wants of many lists of cells what P9.3 says of them, told in another way than the program does.
func checkNeeded(t *testing.T, cells []api.Cell) {
	t.Helper()
	r := rand.New(rand.NewPCG(53, 54))
	for range 5000 {
		l := make([]api.Cell, r.IntN(9))
		var want []int
		for i := range l {
			l[i] = cells[r.IntN(len(cells))]
			if ahead := joined(l[:i]...); joined(l[i], ahead) != ahead {
				want = append(want, i)
			}
		}
		wantNeeded(t, l, want...)
	}
}

func TestLattice(t *testing.T) { // P9.4
	for _, p := range []int{last, del} {
		cells := some(p)
		for _, a := range cells {
			wantJoin(t, a, a)
			wantJoin(t, a, a, zero)
			wantJoin(t, a, zero, a)
			wantJoin(t, a, a, a)
			for _, b := range cells {
				ab := join.Join(a, b)
				wantJoin(t, ab, b, a)
				wantJoin(t, ab, ab, a, b, ab)
				wantWithin(t, a, ab, true)
				wantWithin(t, b, ab, true)
				if !cell.Good(p, ab) {
					t.Fatalf("the join of %.80v and %.80v may not be: %.80v", a, b, ab)
				}
				for _, c := range cells {
					checkThree(t, p, a, b, c)
				}
			}
		}
	}
}

// checkThree wants of three cells that may be that their join hangs on no order and no parts, and what is within it.
func checkThree(t *testing.T, policy int, a, b, c api.Cell) {
	t.Helper()
	all := join.Join(a, b, c)
	for _, l := range orders([]api.Cell{a, b, c}) {
		wantJoin(t, all, l...)
		wantJoin(t, all, join.Join(l[0], l[1]), l[2])
		wantJoin(t, all, l[0], join.Join(l[1], l[2]))
		wantJoin(t, all, join.Join(l[0], l[1]), join.Join(l[1], l[2]))
		wantJoin(t, all, l[0], l[1], l[0], l[2], l[1])
		wantJoin(t, all, zero, l[0], l[1], zero, l[2])
		wantJoin(t, all, all, l[0])
	}
	for _, c := range []api.Cell{a, b, c, zero, join.Join(a, b), all} {
		wantWithin(t, c, all, true)
	}
	if join.Within(a, b) {
		wantWithin(t, a, join.Join(b, c), true)
		wantWithin(t, a, join.Join(c, b), true)
	}
	if !cell.Good(policy, all) {
		t.Fatalf("the join of %.80v, %.80v and %.80v may not be", a, b, c)
	}
}

func wantSeen(t *testing.T, policy int, l []api.Cell, want string, wantOk bool) {
	t.Helper()
	if got, ok := cell.Seen(policy, join.Join(l...)); got != want || ok != wantOk {
		t.Fatalf("of the join of %.200v is seen %q, %t, want %q, %t", l, got, ok, want, wantOk)
	}
}

// writes tells cells of up to 5 writes, some of them deletes, whose stamps rise, with what their writers knew; always the same ones.
func writes(policy int, take func(cells []api.Cell, values []string, knew []api.Vec)) {
	r := rand.New(rand.NewPCG(55, 56))
	for range 400 {
		var cells []api.Cell
		var values []string
		var knew []api.Vec
		n := 0
		for i := range 1 + r.IntN(5) {
			n += 1 + r.IntN(3)
			v, value := api.Vec{r.IntN(4), r.IntN(4)}, string(rune('z'-i))
			if r.IntN(2) == 0 { // a delete
				value = ""
			}
			c, _ := cell.Of(policy, api.Stamp{N: n, Site: 1 + r.IntN(2)}, v, value == "", value)
			cells, values, knew = append(cells, c), append(values, value), append(knew, v)
		}
		take(cells, values, knew)
	}
}

func TestLast(t *testing.T) { // P9.5
	x, y, g := put(5, 1, api.Vec{9, 9}, "x"), put(6, 1, api.Vec{}, "y"), gone(5, 2, api.Vec{0, 1})
	for _, l := range orders([]api.Cell{x, g, zero}) {
		wantSeen(t, last, l, "", false)
	}
	for _, l := range orders([]api.Cell{x, g, y, gone(4, 2, api.Vec{9, 9})}) {
		wantSeen(t, last, l, "y", true)
	}
	shown := 0
	writes(last, func(cells []api.Cell, values []string, _ []api.Vec) {
		want := values[len(values)-1]
		if want != "" {
			shown++
		}
		for _, l := range orders(cells) {
			wantSeen(t, last, l, want, want != "")
		}
	})
	if shown < 50 || shown > 350 {
		t.Fatalf("%d of 400 are seen", shown)
	}
}

func TestDeletes(t *testing.T) { // P9.6
	x, d, y := put(6, 1, api.Vec{1, 0}, "x"), dead(0, 1), put(7, 2, api.Vec{1, 2}, "y")
	for _, l := range orders([]api.Cell{x, d, zero}) {
		wantSeen(t, del, l, "", false)
	}
	for _, l := range orders([]api.Cell{x, d, y, dead(1, 0), zero}) {
		wantSeen(t, del, l, "y", true)
	}
	for _, l := range orders([]api.Cell{x, d, y, dead(1, 3)}) {
		wantSeen(t, del, l, "", false)
	}
	for _, l := range orders([]api.Cell{put(9, 1, api.Vec{2, 0}, "w"), x, d, y}) { // the last write counts, though another one knew of all
		wantSeen(t, del, l, "", false)
	}
	shown, hidden := 0, 0
	writes(del, func(cells []api.Cell, values []string, knew []api.Vec) {
		want, ok := lastOf(values, knew)
		if ok {
			shown++
		} else if slices.ContainsFunc(values, func(s string) bool { return s != "" }) {
			hidden++
		}
		for _, l := range orders(cells) {
			wantSeen(t, del, l, want, ok)
		}
	})
	if shown < 50 || hidden < 50 {
		t.Fatalf("%d are seen, %d are not although there is a write", shown, hidden)
	}
}

// lastOf tells the last value, if its writer knew of each delete.
func lastOf(values []string, knew []api.Vec) (string, bool) {
	out, at := "", -1
	for i, value := range values {
		if value != "" {
			out, at = value, i
		}
	}
	if at < 0 {
		return "", false
	}
	for i, value := range values {
		if value == "" && (knew[i][0] > knew[at][0] || knew[i][1] > knew[at][1]) {
			return "", false
		}
	}
	return out, true
}

func TestNeededIsEnough(t *testing.T) { // P9.7
	r := rand.New(rand.NewPCG(57, 58))
	for _, p := range []int{last, del} {
		cells := some(p)
		fewer := 0
		for range 5000 {
			l := make([]api.Cell, r.IntN(8))
			for i := range l {
				l[i] = cells[r.IntN(len(cells))]
			}
			var needed []api.Cell
			for _, i := range join.Needed(l) {
				needed = append(needed, l[i])
			}
			if len(needed) < len(l) {
				fewer++
			}
			wantJoin(t, join.Join(l...), needed...)
		}
		if fewer < 1000 {
			t.Fatalf("only %d lists have a cell that is not needed", fewer)
		}
		checkNeeded(t, cells)
	}
}

func TestHandedInStays(t *testing.T) { // rules 4 and 8
	late := over(put(99, 2, api.Vec{9, 9}, "spare"), 9, 9)
	for _, spare := range []api.Cell{zero, late, dead(-1, 3)} {
		for _, l := range [][]api.Cell{nil, {zero}, some(last), some(del), most()[:40]} {
			part, whole := probe.Roomy(l, spare)
			before := slices.Clone(whole)
			wantJoin(t, joined(slices.Clip(slices.Clone(l))...), part...)
			wantNeeded(t, part, join.Needed(slices.Clip(slices.Clone(l)))...)
			if !slices.Equal(whole, before) {
				t.Fatalf("the memory of %.200v was changed", l)
			}
		}
	}
	wantJoin(t, zero, []api.Cell{late, late}[:0]...)
	wantNeeded(t, []api.Cell{late}[:0])
}

func TestHandedOutIsNew(t *testing.T) { // rule 4
	for _, l := range [][]api.Cell{nil, {zero}, some(last), some(del)} {
		n1, n2 := join.Needed(l), join.Needed(l)
		if !probe.Apart(n1, n2, join.Needed(l[:len(l)/2])) {
			t.Fatalf("lists handed out share memory, of %.200v", l)
		}
		for i := range n1 {
			n1[i] = -1
		}
		wantNeeded(t, l, n2...)
	}
}
