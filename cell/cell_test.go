package cell_test

import (
	"bytes"
	"math"
	"math/rand/v2"
	"slices"
	"strings"
	"testing"

	"gemel/api"
	"gemel/cell"
	"gemel/probe"
)

const (
	last = api.LastWins
	del  = api.DeleteWins
)

// value64 is a value of as many bytes as may be, value65 one of one more.
var (
	value64 = strings.Repeat("\xfe\x00vé=,", 20)[:api.MaxValue]
	value65 = value64 + "w"
)

// noPolicies are numbers of no policy.
var noPolicies = []int{math.MinInt, -2, -1, 0, 3, 4, 257, 258, 1<<32 + 1, math.MaxInt}

// when are stamps at which something may have been written; never are others, the zero one among them.
var (
	when  = []api.Stamp{{N: 1, Site: 1}, {N: 6, Site: 2}, {N: 31, Site: 2}, {N: 32, Site: 1}, {N: api.MaxTime, Site: 1}, {N: api.MaxCount, Site: 2}}
	never = []api.Stamp{{}, {N: 0, Site: 1}, {N: 0, Site: 2}, {N: 1, Site: 0}, {N: 1, Site: 3}, {N: -1, Site: 1}, {N: 1, Site: -1}, {N: api.MaxCount + 1, Site: 1}, {N: api.MaxCount + 1, Site: 2}, {N: math.MinInt, Site: 1}, {N: math.MaxInt, Site: 2}}
)

// goodVecs are counts that may be, badVecs others.
var (
	goodVecs = []api.Vec{{}, {0, 1}, {1, 0}, {2, 1}, {1, 2}, {64, 16384}, {api.MaxSeq, 0}, {api.MaxSeq, api.MaxSeq}}
	badVecs  = []api.Vec{{-1, 0}, {0, -1}, {api.MaxSeq + 1, 0}, {1, api.MaxSeq + 1}, {math.MinInt, math.MaxInt}}
)

// zero is the cell of nothing.
var zero api.Cell

// isWhen and isVec tell in another way than the program does what may be.
func isWhen(s api.Stamp) bool {
	return 0 < s.N && s.N < 1<<48+1 && (s.Site == 1 || s.Site == 2)
}

func isVec(v api.Vec) bool {
	return -1 < v[0] && v[0] < 1<<40+1 && -1 < v[1] && v[1] < 1<<40+1
}

// isWritten tells in another way than the program does whether a cell has a write.
func isWritten(c api.Cell) bool {
	return c.Stamp.N != 0 || c.Stamp.Site != 0 || c.Vec[0] != 0 || c.Vec[1] != 0 || c.Gone || len(c.Value) > 0
}

// mayBe tells in another way than the program does whether a cell may be.
func mayBe(policy int, c api.Cell) bool {
	right := !isWritten(c) || isWhen(c.Stamp) && isVec(c.Vec) && (!c.Gone && len(c.Value) < 65 || c.Gone && len(c.Value) == 0)
	switch policy {
	case 1:
		return right && c.Dead[0] == 0 && c.Dead[1] == 0
	case 2:
		return right && isVec(c.Dead) && !c.Gone
	}
	return false
}

// isSeen tells in another way than the program does whether a cell's value is to be seen.
func isSeen(policy int, c api.Cell) bool {
	return mayBe(policy, c) && isWritten(c) && !c.Gone && c.Vec[0] >= c.Dead[0] && c.Vec[1] >= c.Dead[1]
}

// all tells the cells of all these parts, most of which may not be.
func all() []api.Cell {
	var out []api.Cell
	vecs := slices.Concat(goodVecs[:5], goodVecs[7:], badVecs)
	for _, s := range append(slices.Clone(when), never...) {
		for _, v := range vecs {
			for _, dead := range vecs {
				for _, value := range []string{"", "x", value64, value65} {
					out = append(out, api.Cell{Stamp: s, Vec: v, Value: value, Dead: dead}, api.Cell{Stamp: s, Vec: v, Gone: true, Value: value, Dead: dead})
				}
			}
		}
	}
	return out
}

// some tells cells that may be, of a policy, of each length of their parts; always the same ones.
func some(policy int) []api.Cell {
	r := rand.New(rand.NewPCG(41, 42))
	count := func() int { return r.IntN(api.MaxSeq+1) >> r.IntN(42) }
	out := slices.DeleteFunc(all(), func(c api.Cell) bool { return !mayBe(policy, c) })
	for range 500 {
		c := api.Cell{Stamp: api.Stamp{N: 1 + r.IntN(api.MaxCount)>>r.IntN(48), Site: 1 + r.IntN(2)}, Vec: api.Vec{count(), count()}}
		switch {
		case policy == del:
			c.Dead = api.Vec{count(), count()}
		case r.IntN(3) == 0:
			c.Gone = true
		}
		if !c.Gone {
			c.Value = value64[:r.IntN(65)]
		}
		out = append(out, c)
	}
	return out
}

// codeOf tells what a stamp's code is to be.
func codeOf(s api.Stamp) int {
	switch s.Site {
	case 1:
		return s.N << 1
	case 2:
		return s.N<<1 | 1
	}
	return 0
}

// pair, text and write tell what bytes parts are to have.
func pair(v api.Vec) []byte {
	return slices.Concat(probe.Laid(v[0]), probe.Laid(v[1]))
}

func text(s string) []byte {
	return append(probe.Laid(len(s)), s...)
}

func write(s api.Stamp, v api.Vec) []byte {
	return append(probe.Laid(codeOf(s)), pair(v)...)
}

// bytesOf tells what the bytes of a cell that may be are to be.
func bytesOf(c api.Cell) []byte {
	var out []byte
	sum := 0
	if isWritten(c) {
		sum = 1
		out = write(c.Stamp, c.Vec)
		if c.Gone {
			sum = 3
		} else {
			out = append(out, text(c.Value)...)
		}
	}
	if c.Dead[0] > 0 || c.Dead[1] > 0 {
		sum += 4
		out = append(out, pair(c.Dead)...)
	}
	return append([]byte{byte(sum)}, out...)
}

func wantGood(t *testing.T, policy int, c api.Cell, want bool) {
	t.Helper()
	if got := cell.Good(policy, c); got != want {
		t.Errorf("Good(%d, %.80v) = %t", policy, c, got)
	}
}

func TestGood(t *testing.T) { // P8.1
	s, v := api.Stamp{N: 6, Site: 2}, api.Vec{0, 1}
	for _, x := range []struct {
		c         api.Cell
		last, del bool
	}{
		{zero, true, true},
		{api.Cell{Stamp: s, Vec: v, Value: "x"}, true, true},
		{api.Cell{Stamp: s, Vec: v}, true, true},
		{api.Cell{Stamp: s}, true, true}, // its writer knew of nothing: counts that may be
		{api.Cell{Stamp: s, Vec: v, Value: value64}, true, true},
		{api.Cell{Stamp: s, Vec: v, Value: value65}, false, false},
		{api.Cell{Stamp: s, Vec: v, Gone: true}, true, false},
		{api.Cell{Stamp: s, Gone: true}, true, false},
		{api.Cell{Stamp: s, Vec: v, Gone: true, Value: "x"}, false, false},
		{api.Cell{Stamp: s, Vec: v, Gone: true, Value: value65}, false, false},
		{api.Cell{Gone: true}, false, false},
		{api.Cell{Dead: v}, false, true},
		{api.Cell{Dead: api.Vec{1, 0}}, false, true},
		{api.Cell{Dead: api.Vec{api.MaxSeq, api.MaxSeq}}, false, true},
		{api.Cell{Dead: api.Vec{api.MaxSeq + 1, 0}}, false, false},
		{api.Cell{Dead: api.Vec{0, -1}}, false, false},
		{api.Cell{Stamp: s, Vec: v, Value: "x", Dead: v}, false, true},
		{api.Cell{Stamp: s, Vec: v, Value: "x", Dead: api.Vec{7, 7}}, false, true}, // not to be seen, but it may be
		{api.Cell{Stamp: s, Vec: v, Value: "x", Dead: api.Vec{-1, 0}}, false, false},
		{api.Cell{Stamp: s, Vec: v, Gone: true, Dead: v}, false, false},
		{api.Cell{Vec: v}, false, false}, // the zero stamp beside other parts that are not
		{api.Cell{Value: "x"}, false, false},
		{api.Cell{Vec: v, Value: "x"}, false, false},
		{api.Cell{Vec: v, Dead: v}, false, false},
		{api.Cell{Value: "x", Dead: v}, false, false},
		{api.Cell{Gone: true, Dead: v}, false, false},
		{api.Cell{Stamp: api.Stamp{N: 6, Site: 3}, Vec: v, Value: "x"}, false, false},
		{api.Cell{Stamp: api.Stamp{N: 6}, Vec: v, Value: "x"}, false, false},
		{api.Cell{Stamp: api.Stamp{Site: 2}}, false, false},
		{api.Cell{Stamp: s, Vec: api.Vec{-1, 1}, Value: "x"}, false, false},
		{api.Cell{Stamp: s, Vec: api.Vec{0, api.MaxSeq + 1}, Value: "x"}, false, false},
	} {
		wantGood(t, last, x.c, x.last)
		wantGood(t, del, x.c, x.del)
		for _, p := range noPolicies {
			wantGood(t, p, x.c, false)
		}
	}
	for _, c := range all() {
		for _, p := range []int{last, del, 0, 3} {
			wantGood(t, p, c, mayBe(p, c))
		}
	}
}

func TestGoodParts(t *testing.T) { // P8.1
	for _, p := range []int{last, del} {
		for _, s := range when {
			wantGood(t, p, api.Cell{Stamp: s, Vec: api.Vec{1, 1}, Value: "x"}, true)
		}
		for _, s := range never {
			wantGood(t, p, api.Cell{Stamp: s, Vec: api.Vec{1, 1}, Value: "x"}, false)
		}
		for size := range 200 {
			wantGood(t, p, api.Cell{Stamp: when[0], Value: strings.Repeat("v", size)}, size <= api.MaxValue)
		}
	}
}

func wantOf(t *testing.T, policy int, s api.Stamp, v api.Vec, gone bool, value string, want api.Cell, wantE api.Errno) {
	t.Helper()
	if c, e := cell.Of(policy, s, v, gone, value); c != want || e != wantE {
		t.Errorf("Of(%d, %v, %v, %t, %.20q) = %.80v, %d, want %.80v, %d", policy, s, v, gone, value, c, int(e), want, int(wantE))
	}
}

func TestOf(t *testing.T) { // P8.1
	s := api.Stamp{N: 6, Site: 2}
	wantOf(t, last, s, api.Vec{0, 1}, false, "x", api.Cell{Stamp: s, Vec: api.Vec{0, 1}, Value: "x"}, api.OK)
	wantOf(t, last, s, api.Vec{0, 1}, true, "", api.Cell{Stamp: s, Vec: api.Vec{0, 1}, Gone: true}, api.OK)
	wantOf(t, del, s, api.Vec{0, 1}, false, "x", api.Cell{Stamp: s, Vec: api.Vec{0, 1}, Value: "x"}, api.OK)
	wantOf(t, del, s, api.Vec{2, 1}, true, "", api.Cell{Dead: api.Vec{2, 1}}, api.OK)
	wantOf(t, del, s, api.Vec{}, true, "", zero, api.OK)
	for _, s := range when {
		for _, v := range goodVecs {
			for _, value := range []string{"", "x", "\x00\xff", value64} {
				wantOf(t, last, s, v, false, value, api.Cell{Stamp: s, Vec: v, Value: value}, api.OK)
				wantOf(t, del, s, v, false, value, api.Cell{Stamp: s, Vec: v, Value: value}, api.OK)
			}
			wantOf(t, last, s, v, true, "", api.Cell{Stamp: s, Vec: v, Gone: true}, api.OK)
			wantOf(t, del, s, v, true, "", api.Cell{Dead: v}, api.OK)
		}
	}
}

func TestOfErrors(t *testing.T) { // P8.1
	s, v := when[0], api.Vec{1, 0}
	for _, p := range []int{last, del} {
		wantOf(t, p, s, v, false, value65, zero, api.ErrLong)
		wantOf(t, p, s, v, false, strings.Repeat("v", 5000), zero, api.ErrLong)
		wantOf(t, p, s, v, true, "x", zero, api.ErrArg)
		wantOf(t, p, s, v, true, value64, zero, api.ErrArg)
		wantOf(t, p, s, v, true, value65, zero, api.ErrArg) // too long as well: ErrArg goes ahead
		for _, gone := range []bool{false, true} {
			for _, value := range []string{"", "x", value64, value65} { // with and without an error of these
				for _, bad := range never {
					wantOf(t, p, bad, v, gone, value, zero, api.ErrArg)
				}
				for _, bad := range badVecs {
					wantOf(t, p, s, bad, gone, value, zero, api.ErrArg)
					wantOf(t, p, api.Stamp{}, bad, gone, value, zero, api.ErrArg)
				}
			}
		}
	}
	for _, p := range noPolicies {
		for _, gone := range []bool{false, true} {
			for _, value := range []string{"", "x", value64, value65} {
				wantOf(t, p, s, v, gone, value, zero, api.ErrArg)
			}
		}
	}
}

func wantSeen(t *testing.T, policy int, c api.Cell, want string, wantOk bool) {
	t.Helper()
	if got, ok := cell.Seen(policy, c); got != want || ok != wantOk {
		t.Errorf("Seen(%d, %.80v) = %.20q, %t, want %.20q, %t", policy, c, got, ok, want, wantOk)
	}
}

func TestSeen(t *testing.T) { // P8.2
	s := api.Stamp{N: 6, Site: 2}
	wantSeen(t, last, api.Cell{Stamp: s, Vec: api.Vec{0, 1}, Value: "x"}, "x", true)
	wantSeen(t, last, api.Cell{Stamp: s, Value: "x"}, "x", true)
	wantSeen(t, last, api.Cell{Stamp: s}, "", true) // a value without a byte is one
	wantSeen(t, del, api.Cell{Stamp: s}, "", true)
	wantSeen(t, last, api.Cell{Stamp: s, Vec: api.Vec{0, 1}, Gone: true}, "", false)
	wantSeen(t, last, zero, "", false)
	wantSeen(t, del, zero, "", false)
	wantSeen(t, del, api.Cell{Dead: api.Vec{1, 1}}, "", false)
	for _, p := range noPolicies {
		wantSeen(t, p, api.Cell{Stamp: s, Value: "x"}, "", false)
	}
	for _, c := range []api.Cell{ // ones that may not be, though all else is right
		{Vec: api.Vec{1, 1}, Value: "x"},
		{Stamp: api.Stamp{N: 6, Site: 3}, Vec: api.Vec{1, 1}, Value: "x"},
		{Stamp: s, Vec: api.Vec{api.MaxSeq + 1, 1}, Value: "x"},
		{Stamp: s, Vec: api.Vec{1, 1}, Value: value65},
		{Stamp: s, Vec: api.Vec{1, 1}, Value: "x", Dead: api.Vec{0, -1}},
	} {
		wantSeen(t, last, c, "", false)
		wantSeen(t, del, c, "", false)
	}
	for _, c := range all() {
		for _, p := range []int{last, del, 0, 3} {
			if isSeen(p, c) {
				wantSeen(t, p, c, c.Value, true)
			} else {
				wantSeen(t, p, c, "", false)
			}
		}
	}
}

func TestSeenBehindDeletes(t *testing.T) { // P8.2
	for dead, want := range map[api.Vec]bool{
		{}:             true,
		{2, 3}:         true, // the same
		{2, 2}:         true,
		{1, 3}:         true,
		{0, 3}:         true,
		{3, 3}:         false,
		{2, 4}:         false,
		{3, 2}:         false, // more in one place, less in the other one
		{1, 4}:         false,
		{3, 0}:         false,
		{0, 4}:         false,
		{3, 4}:         false,
		{api.MaxSeq}:   false,
		{0, 1 << 40}:   false,
		{-1, 3}:        false, // covered, but it may not be
		{2, 1<<40 + 1}: false,
	} {
		c := api.Cell{Stamp: api.Stamp{N: 6, Site: 2}, Vec: api.Vec{2, 3}, Value: "x", Dead: dead}
		if want {
			wantSeen(t, del, c, "x", true)
		} else {
			wantSeen(t, del, c, "", false)
		}
		wantSeen(t, last, c, map[bool]string{true: "x"}[dead == api.Vec{}], dead == api.Vec{})
	}
}

func TestKnown(t *testing.T) { // P8.2
	for _, x := range []struct{ v, dead, want api.Vec }{
		{api.Vec{}, api.Vec{}, api.Vec{}},
		{api.Vec{1, 2}, api.Vec{}, api.Vec{1, 2}},
		{api.Vec{}, api.Vec{1, 2}, api.Vec{1, 2}},
		{api.Vec{1, 2}, api.Vec{2, 1}, api.Vec{2, 2}}, // above one another in one place each
		{api.Vec{2, 1}, api.Vec{1, 2}, api.Vec{2, 2}},
		{api.Vec{0, 1}, api.Vec{0, 2}, api.Vec{0, 2}},
		{api.Vec{3, 3}, api.Vec{3, 3}, api.Vec{3, 3}},
		{api.Vec{api.MaxSeq, 0}, api.Vec{0, api.MaxSeq}, api.Vec{api.MaxSeq, api.MaxSeq}},
		{api.Vec{-1, 2}, api.Vec{-3, 1}, api.Vec{0, 2}}, // ones that are not good: the join takes 0 for what is below it
		{api.Vec{-1, -2}, api.Vec{5, -1}, api.Vec{5, 0}},
		{api.Vec{math.MinInt, math.MaxInt}, api.Vec{api.MaxSeq + 1, 0}, api.Vec{api.MaxSeq + 1, math.MaxInt}},
	} {
		for _, c := range []api.Cell{{Vec: x.v, Dead: x.dead}, {Stamp: when[1], Vec: x.v, Value: "x", Dead: x.dead}, {Stamp: never[4], Vec: x.v, Gone: true, Value: value65, Dead: x.dead}} {
			if got := cell.Known(c); got != x.want {
				t.Errorf("Known(%.80v) = %v, want %v", c, got, x.want)
			}
		}
	}
	for _, c := range all() {
		if got, want := cell.Known(c), (api.Vec{max(0, c.Vec[0], c.Dead[0]), max(0, c.Vec[1], c.Dead[1])}); got != want {
			t.Errorf("Known(%.80v) = %v, want %v", c, got, want)
		}
	}
}

func wantPut(t *testing.T, ahead string, policy int, c api.Cell, want string) {
	t.Helper()
	if got := cell.Put([]byte(ahead), policy, c); string(got) != ahead+want {
		t.Errorf("Put(%q, %d, %.80v) = %x, want %x behind it", ahead, policy, c, got, want)
	}
}

func TestPut(t *testing.T) { // P8.3
	s, v := api.Stamp{N: 6, Site: 2}, api.Vec{0, 1}
	for _, ahead := range []string{"", "z", "\x01", "two words"} {
		for _, p := range []int{last, del} {
			wantPut(t, ahead, p, zero, "\x00")
			wantPut(t, ahead, p, api.Cell{Stamp: s, Vec: v, Value: "x"}, "\x01\x0d\x00\x01\x01x")
			wantPut(t, ahead, p, api.Cell{Stamp: s, Vec: v}, "\x01\x0d\x00\x01\x00")
			wantPut(t, ahead, p, api.Cell{Stamp: s, Vec: api.Vec{5, 64}, Value: value64}, "\x01\x0d\x05\x40\x40\x40\x40"+value64)
		}
		wantPut(t, ahead, last, api.Cell{Stamp: s, Vec: v, Gone: true}, "\x03\x0d\x00\x01")
		wantPut(t, ahead, del, api.Cell{Dead: api.Vec{2, 1}}, "\x04\x02\x01")
		wantPut(t, ahead, del, api.Cell{Dead: api.Vec{0, 1}}, "\x04\x00\x01")
		wantPut(t, ahead, del, api.Cell{Dead: api.Vec{1, 0}}, "\x04\x01\x00")
		wantPut(t, ahead, del, api.Cell{Stamp: s, Vec: v, Value: "x", Dead: api.Vec{2, 1}}, "\x05\x0d\x00\x01\x01x\x02\x01")
		for _, p := range []int{last, del} {
			for _, c := range some(p) {
				wantPut(t, ahead, p, c, string(bytesOf(c)))
			}
		}
	}
	if got := cell.Put(nil, last, zero); string(got) != "\x00" {
		t.Errorf("Put(nil, 1, nothing) = %x", got)
	}
}

func TestPutOfBad(t *testing.T) { // P8.3
	for _, c := range all() {
		for _, p := range []int{last, del, 0, 3} {
			if !mayBe(p, c) {
				wantPut(t, "", p, c, "")
				wantPut(t, "some bytes", p, c, "")
			}
		}
	}
	for _, p := range noPolicies {
		wantPut(t, "", p, zero, "")
		wantPut(t, "z", p, zero, "")
		wantPut(t, "z", p, api.Cell{Stamp: when[0], Value: "x"}, "")
	}
	if got := cell.Put(nil, last, api.Cell{Gone: true}); len(got) > 0 {
		t.Errorf("Put of what may not be = %x", got)
	}
}

func wantGet(t *testing.T, b []byte, policy int, want api.Cell, size int) {
	t.Helper()
	if c, n, e := cell.Get(b, policy); c != want || n != size || e != api.OK {
		t.Errorf("Get(%.40x, %d) = %.80v, %d, %d, want %.80v, %d", b, policy, c, n, int(e), want, size)
	}
}

func wantNoCell(t *testing.T, b []byte, policy int) {
	t.Helper()
	if c, n, e := cell.Get(b, policy); c != zero || n != 0 || e != api.ErrCell {
		t.Errorf("Get(%.40x, %d) = %.80v, %d, %d, want none and %d", b, policy, c, n, int(e), int(api.ErrCell))
	}
}

func TestGet(t *testing.T) { // P8.3
	s := api.Stamp{N: 6, Site: 2}
	wantGet(t, []byte("\x01\x0d\x00\x01\x01x"), last, api.Cell{Stamp: s, Vec: api.Vec{0, 1}, Value: "x"}, 6)
	wantGet(t, []byte("\x04\x02\x01"), del, api.Cell{Dead: api.Vec{2, 1}}, 3)
	wantGet(t, []byte("\x00"), last, zero, 1)
	wantGet(t, []byte("\x00"), del, zero, 1)
	for _, p := range []int{last, del} {
		for _, c := range some(p) {
			b := bytesOf(c)
			for _, behind := range []string{"", "\x00", "\x04\x02\x01", "\xff", "and more of them"} {
				wantGet(t, append(slices.Clone(b), behind...), p, c, len(b))
			}
		}
	}
}

// sums tells for each sum that the first number may have the bytes of the parts of which it tells, and the cell that it would be.
func sums(s api.Stamp, v api.Vec, value string, dead api.Vec) (parts [][]byte, cells []api.Cell) {
	for sum := range 8 {
		b := []byte{byte(sum)}
		var c api.Cell
		c.Gone = sum&2 > 0
		if sum&1 > 0 {
			b = append(b, write(s, v)...)
			c.Stamp, c.Vec = s, v
			if !c.Gone {
				b = append(b, text(value)...)
				c.Value = value
			}
		}
		if sum&4 > 0 {
			b = append(b, pair(dead)...)
			c.Dead = dead
		}
		parts, cells = append(parts, b), append(cells, c)
	}
	return parts, cells
}

func TestGetSums(t *testing.T) { // P8.3
	may := map[int][]int{last: {0, 1, 3}, del: {0, 1, 4, 5}}
	for _, s := range when {
		for _, v := range goodVecs {
			for _, dead := range goodVecs[1:] {
				for _, value := range []string{"", "x", value64} {
					parts, cells := sums(s, v, value, dead)
					for sum, b := range parts {
						for p := range 5 {
							for _, behind := range []string{"", "\x01\x00\x00\x00\x00\x00"} {
								b := append(slices.Clone(b), behind...)
								if slices.Contains(may[p], sum) {
									wantGet(t, b, p, cells[sum], len(b)-len(behind))
								} else {
									wantNoCell(t, b, p)
								}
							}
						}
					}
				}
			}
		}
	}
}

func TestGetFirst(t *testing.T) { // P8.3: a first number that is no sum
	tail := []byte("\x0d\x00\x01\x01x\x02\x01\x00\x00\x00\x00")
	for _, p := range append([]int{last, del}, noPolicies...) {
		wantNoCell(t, nil, p)
		wantNoCell(t, []byte{}, p)
		for n := 8; n < 300; n++ {
			wantNoCell(t, probe.Laid(n), p)
			wantNoCell(t, append(probe.Laid(n), tail...), p)
		}
		for _, n := range []int{16384, 16385, 1<<30 + 1, 1 << 40, api.MaxNum - 7, api.MaxNum} {
			wantNoCell(t, append(probe.Laid(n), tail...), p)
			wantNoCell(t, append(probe.Laid(n), tail[5:]...), p)
		}
		for _, s := range []string{"\x40\x00", "\x40\x01", "\x40\x04", "\x80\x00\x00\x00", "\x80\x00\x00\x01", "\xc0\x00\x00\x00\x00\x00\x00\x04", "\x40", "\xff"} { // in more bytes than it needs, or cut
			wantNoCell(t, []byte(s), p)
			if len(s) > 1 {
				wantNoCell(t, append([]byte(s), tail...), p)
			}
		}
	}
	for _, p := range noPolicies {
		for _, q := range []int{last, del} {
			for _, c := range some(q) {
				wantNoCell(t, bytesOf(c), p)
			}
		}
	}
}

func TestGetCut(t *testing.T) { // P8.3
	for _, p := range []int{last, del} {
		for _, c := range some(p) {
			b := bytesOf(c)
			for have := range len(b) { // the missing bytes stand behind the list's length
				wantNoCell(t, b[:have], p)
			}
		}
	}
}

func TestGetBadParts(t *testing.T) { // P8.3
	s, v, dead := when[1], api.Vec{0, 1}, api.Vec{2, 1}
	goodWrite := write(s, v)
	check := func(parts ...[]byte) {
		t.Helper()
		b := slices.Concat(parts...)
		for _, p := range []int{last, del, 0, 3} {
			wantNoCell(t, b, p)
			wantNoCell(t, append(b, "\x00\x00\x00\x00"...), p)
		}
	}
	for _, code := range []int{0, 1, 2*api.MaxCount + 2, 2*api.MaxCount + 3, 1 << 60, api.MaxNum} { // the zero stamp, and no stamp's
		for _, v := range goodVecs {
			check([]byte{1}, probe.Laid(code), pair(v), text("x"))
			check([]byte{1}, probe.Laid(code), pair(v), text(""))
			check([]byte{3}, probe.Laid(code), pair(v))
			check([]byte{5}, probe.Laid(code), pair(v), text("x"), pair(dead))
			check([]byte{5}, probe.Laid(code), pair(v), text(""), pair(dead))
		}
	}
	for _, n := range []int{api.MaxSeq + 1, 1 << 48, api.MaxNum} { // counts that are too many
		for _, bad := range []api.Vec{{n, 0}, {0, n}, {n, n}} {
			check([]byte{1}, probe.Laid(13), pair(bad), text("x"))
			check([]byte{3}, probe.Laid(13), pair(bad))
			check([]byte{4}, pair(bad))
			check([]byte{5}, goodWrite, text("x"), pair(bad))
		}
	}
	for _, size := range []int{65, 66, 1000, 16384} { // values that are too long
		check([]byte{1}, goodWrite, text(strings.Repeat("v", size)))
		check([]byte{5}, goodWrite, text(strings.Repeat("v", size)), pair(dead))
		check([]byte{1}, goodWrite, probe.Laid(size))
	}
	for _, part := range []string{"\x40\x0d\x00\x01\x01x", "\x0d\x40\x00\x01\x01x", "\x0d\x00\x40\x01\x01x", "\x0d\x00\x01\x40\x01x", "\x80\x00\x00\x0d\x00\x01\x01x"} { // numbers in more bytes than they need
		check([]byte{1}, []byte(part))
		check([]byte{5}, []byte(part), pair(dead))
	}
	check([]byte{3}, []byte("\x0d\x40\x00\x01"))
	check([]byte{4}, []byte("\x40\x02\x01"))
	check([]byte{4}, []byte("\x02\x40\x01"))
	check([]byte{5}, goodWrite, text("x"), []byte("\x02\x40\x01"))
	check([]byte{1}, goodWrite, probe.Laid(api.MaxNum), []byte("x"))
}

func TestGetZeroParts(t *testing.T) { // P8.3: parts that are zero although the first number tells of them
	for _, p := range []int{last, del} {
		for _, behind := range []string{"", "\x00", "\x01\x01"} {
			wantNoCell(t, []byte("\x01\x00\x00\x00\x00"+behind), p)
			wantNoCell(t, []byte("\x03\x00\x00\x00"+behind), p)
			wantNoCell(t, []byte("\x04\x00\x00"+behind), p)
			wantNoCell(t, []byte("\x05\x00\x00\x00\x00\x00\x00"+behind), p)
			wantNoCell(t, []byte("\x05\x00\x00\x00\x00\x02\x01"+behind), p)
			wantNoCell(t, []byte("\x05\x0d\x00\x01\x01x\x00\x00"+behind), p)
			wantNoCell(t, []byte("\x07\x0d\x00\x01\x00\x00"+behind), p)
			wantNoCell(t, []byte("\x02"+behind), p)
			wantNoCell(t, []byte("\x06\x02\x01"+behind), p)
			wantGet(t, []byte("\x01\x0d\x00\x00\x00"+behind), p, api.Cell{Stamp: when[1]}, 5) // counts and a value may be zero in a write
		}
	}
}

func TestBack(t *testing.T) { // P8.4
	for _, p := range []int{last, del} {
		for _, c := range some(p) {
			b := cell.Put(nil, p, c)
			for _, behind := range []string{"", "\x00", "\xc0", "whatever"} {
				wantGet(t, append(slices.Clone(b), behind...), p, c, len(b))
			}
		}
	}
}

// checkAgain tells whether bytes are a cell's; what is got of them must be put as it was.
func checkAgain(t *testing.T, b []byte, policy int) bool {
	t.Helper()
	c, n, e := cell.Get(b, policy)
	if e != api.OK {
		wantNoCell(t, b, policy)
		return false
	}
	if !mayBe(policy, c) || n > len(b) || !bytes.Equal(cell.Put(nil, policy, c), b[:n]) {
		t.Errorf("%x is got as %v, %d, and put as %x", b, c, n, cell.Put(nil, policy, c))
	}
	return true
}

func TestBackOfBytes(t *testing.T) { // P8.4
	taken := 0
	take := func(b []byte) {
		for p := range 4 {
			if checkAgain(t, b, p) {
				taken++
			}
		}
	}
	parts := []byte{0, 1, 2, 3, 0x0d, 0x40}
	for first := range 10 {
		for i := range 6 * 6 * 6 * 6 * 6 {
			take([]byte{byte(first), parts[i%6], parts[i/6%6], parts[i/36%6], parts[i/216%6], parts[i/1296%6]})
		}
	}
	r := rand.New(rand.NewPCG(43, 44))
	for _, p := range []int{last, del} {
		for _, c := range some(p) { // one byte of a cell's is another one
			b := bytesOf(c)
			b[r.IntN(min(len(b), 12))] = byte(r.Uint32() >> r.IntN(9))
			take(append(b, 1, 2, 3, 4, 5, 6, 7, 8))
		}
	}
	if taken < 5000 {
		t.Errorf("only %d of these are a cell's", taken)
	}
}

func TestSeenOf(t *testing.T) { // P8.5
	for _, p := range []int{last, del} {
		for _, s := range when {
			for _, v := range goodVecs {
				for _, value := range []string{"", "x", value64} {
					c, _ := cell.Of(p, s, v, false, value)
					wantGood(t, p, c, true)
					wantSeen(t, p, c, value, true)
					for _, dead := range goodVecs {
						c.Dead = dead
						if p == del && v[0] >= dead[0] && v[1] >= dead[1] || dead == (api.Vec{}) {
							wantSeen(t, p, c, value, true)
						} else {
							wantSeen(t, p, c, "", false)
						}
					}
				}
				c, _ := cell.Of(p, s, v, true, "")
				wantGood(t, p, c, true)
				wantSeen(t, p, c, "", false)
			}
		}
	}
}

func TestHandedInStays(t *testing.T) { // rules 4 and 8
	cells := append(some(del)[:60], some(last)[:60]...)
	cells = append(cells, api.Cell{Gone: true}, api.Cell{Value: value65})
	for _, s := range []string{"", "\x00", "\x01", "\x01\x0d\x00\x01\x01x", "\x01\x0d\x00\x01\x01", "\x04\x02", "\x04\x02\x01", "\x05\x0d\x00\x01\x01x\x02\x01", "\x08"} {
		for _, spare := range []byte{0, 1, 0x40, 0xff} {
			b, room := probe.Roomy([]byte(s), spare)
			before := slices.Clone(room)
			for p := range 4 {
				for _, c := range cells {
					cell.Put(b, p, c)
				}
				want, size, wantE := cell.Get([]byte(s), p)
				if c, n, e := cell.Get(b, p); c != want || n != size || e != wantE {
					t.Errorf("Get(%x, %d) hangs on what stands behind its length", s, p)
				}
			}
			if !bytes.Equal(room, before) {
				t.Errorf("the memory of %x was changed", s)
			}
		}
	}
}

func TestHandedOutIsNew(t *testing.T) { // rule 4
	bad := []api.Cell{{Gone: true}, {Value: value65}, {Vec: api.Vec{-1, 0}}}
	for _, p := range []int{last, del, 0} {
		for _, c := range append(bad, some(del)[:40]...) {
			for _, s := range []string{"", "x", "some bytes"} {
				b, room := probe.Roomy([]byte(s), 0x05)
				if !probe.Apart(room, cell.Put(b, p, c), cell.Put(b, p, c), cell.Put(room, p, c), cell.Put(room, p, c)) {
					t.Errorf("lists handed out or in share memory, with %q, %d and %.80v", s, p, c)
				}
			}
		}
	}
	b := []byte("\x01\x0d\x00\x01\x01x")
	c, _, _ := cell.Get(b, last)
	b[5] = 'y'
	if c.Value != "x" {
		t.Errorf("a value that was got has become %q", c.Value)
	}
}
