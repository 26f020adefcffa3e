package vec_test

import (
	"bytes"
	"encoding/binary"
	"math"
	"math/rand/v2"
	"slices"
	"testing"

	"gemel/api"
	"gemel/probe"
	"gemel/vec"
)

// counts are those around which a pair is good no more, and those at which a sum would leave its type's range.
var counts = []int{math.MinInt, math.MinInt + 1, -api.MaxSeq, -2, -1, 0, 1, 2, 3, 63, 64, 16383, 16384, 1 << 30, api.MaxSeq - 1, api.MaxSeq, api.MaxSeq + 1, api.MaxSeq + 2, api.MaxNum, api.MaxNum + 1, math.MaxInt - 1, math.MaxInt}

// noSites are numbers of no site.
var noSites = []int{math.MinInt, -2, -1, 0, 3, 4, 257, 258, 1<<32 + 1, math.MaxInt}

// pairs tells all pairs of these counts.
func pairs() []api.Vec {
	var out []api.Vec
	for _, a := range counts {
		for _, b := range counts {
			out = append(out, api.Vec{a, b})
		}
	}
	return out
}

// isGood tells in another way than the program does whether a pair is good.
func isGood(v api.Vec) bool {
	return v[0] > -1 && v[1] > -1 && v[0] < 1<<40+1 && v[1] < 1<<40+1
}

// bad tells those of the pairs that are not good.
func bad() []api.Vec {
	return slices.DeleteFunc(pairs(), isGood)
}

// some tells those of the pairs that are good, and others of each length; always the same ones.
func some() []api.Vec {
	r := rand.New(rand.NewPCG(17, 18))
	out := slices.DeleteFunc(pairs(), func(v api.Vec) bool { return !isGood(v) })
	for range 300 {
		out = append(out, api.Vec{r.IntN(api.MaxSeq+1) >> r.IntN(41), r.IntN(api.MaxSeq+1) >> r.IntN(41)})
	}
	return out
}

// both tells what the bytes of two numbers are to be.
func both(a, b int) []byte {
	return slices.Concat(probe.Laid(a), probe.Laid(b))
}

func TestNames(t *testing.T) { // P6.1
	if vec.Same != 0 || vec.Less != 1 || vec.More != 2 || vec.Apart != 3 {
		t.Error("the answers of Compare have other numbers")
	}
}

func TestGood(t *testing.T) { // P6.1
	for v, want := range map[api.Vec]bool{
		{}:                             true,
		{1, 0}:                         true,
		{0, 1}:                         true,
		{api.MaxSeq, 0}:                true,
		{0, api.MaxSeq}:                true,
		{api.MaxSeq, api.MaxSeq}:       true,
		{api.MaxSeq + 1, 0}:            false,
		{0, api.MaxSeq + 1}:            false,
		{api.MaxSeq + 1, api.MaxSeq}:   false,
		{api.MaxSeq, api.MaxSeq + 1}:   false,
		{-1, 0}:                        false,
		{0, -1}:                        false,
		{-1, api.MaxSeq}:               false,
		{api.MaxSeq, -1}:               false,
		{-1, -1}:                       false,
		{-1, api.MaxSeq + 1}:           false,
		{math.MinInt, 0}:               false,
		{0, math.MinInt}:               false,
		{math.MaxInt, 0}:               false,
		{0, math.MaxInt}:               false,
		{math.MinInt + 1, math.MaxInt}: false,
	} {
		if got := vec.Good(v); got != want {
			t.Errorf("Good(%v) = %t", v, got)
		}
	}
	for _, v := range append(pairs(), some()...) {
		if got := vec.Good(v); got != isGood(v) {
			t.Errorf("Good(%v) = %t", v, got)
		}
	}
}

func wantCompare(t *testing.T, a, b api.Vec, want int) {
	t.Helper()
	if got := vec.Compare(a, b); got != want {
		t.Errorf("Compare(%v, %v) = %d, want %d", a, b, got, want)
	}
	if got := vec.Covers(a, b); got != (want == vec.Same || want == vec.More) {
		t.Errorf("Covers(%v, %v) = %t", a, b, got)
	}
	if got := vec.Covers(b, a); got != (want == vec.Same || want == vec.Less) {
		t.Errorf("Covers(%v, %v) = %t", b, a, got)
	}
}

func TestCompare(t *testing.T) { // P6.1
	wantCompare(t, api.Vec{1, 2}, api.Vec{1, 2}, vec.Same)
	wantCompare(t, api.Vec{}, api.Vec{}, vec.Same)
	wantCompare(t, api.Vec{1, 2}, api.Vec{1, 3}, vec.Less)
	wantCompare(t, api.Vec{1, 2}, api.Vec{2, 2}, vec.Less)
	wantCompare(t, api.Vec{1, 2}, api.Vec{2, 3}, vec.Less)
	wantCompare(t, api.Vec{1, 3}, api.Vec{1, 2}, vec.More)
	wantCompare(t, api.Vec{2, 2}, api.Vec{1, 2}, vec.More)
	wantCompare(t, api.Vec{2, 3}, api.Vec{1, 2}, vec.More)
	wantCompare(t, api.Vec{1, 2}, api.Vec{2, 1}, vec.Apart)
	wantCompare(t, api.Vec{2, 1}, api.Vec{1, 2}, vec.Apart)
	wantCompare(t, api.Vec{0, api.MaxSeq}, api.Vec{api.MaxSeq, 0}, vec.Apart)
	wantCompare(t, api.Vec{}, api.Vec{api.MaxSeq, api.MaxSeq}, vec.Less)
	wantCompare(t, api.Vec{math.MinInt, 0}, api.Vec{math.MaxInt, 0}, vec.Less) // pairs that are not good, too
	wantCompare(t, api.Vec{-1, 1}, api.Vec{-2, 2}, vec.Apart)
}

func TestCompareAny(t *testing.T) { // P6.1
	// By how the first counts stand, and the second ones.
	want := map[[2]bool]map[[2]bool]int{
		{true, true}:  {{true, true}: vec.Same, {true, false}: vec.Less, {false, true}: vec.More},
		{true, false}: {{true, true}: vec.Less, {true, false}: vec.Less, {false, true}: vec.Apart},
		{false, true}: {{true, true}: vec.More, {true, false}: vec.Apart, {false, true}: vec.More},
	}
	for _, a := range pairs() {
		for _, b := range pairs() {
			first, second := [2]bool{a[0] <= b[0], a[0] >= b[0]}, [2]bool{a[1] <= b[1], a[1] >= b[1]}
			wantCompare(t, a, b, want[first][second])
		}
	}
}

func wantJoin(t *testing.T, want api.Vec, l ...api.Vec) {
	t.Helper()
	if got := vec.Join(l...); got != want {
		t.Errorf("Join(%v) = %v, want %v", l, got, want)
	}
}

func TestJoin(t *testing.T) { // P6.2
	wantJoin(t, api.Vec{})
	wantJoin(t, api.Vec{}, []api.Vec{}...)
	wantJoin(t, api.Vec{}, api.Vec{})
	wantJoin(t, api.Vec{1, 2}, api.Vec{1, 2})
	wantJoin(t, api.Vec{2, 2}, api.Vec{1, 2}, api.Vec{2, 1})
	wantJoin(t, api.Vec{3, 9}, api.Vec{1, 2}, api.Vec{3, 1}, api.Vec{0, 9}, api.Vec{2, 8})
	wantJoin(t, api.Vec{0, 1}, api.Vec{-3, 1}) // of 0, too
	wantJoin(t, api.Vec{1, 0}, api.Vec{1, -3})
	wantJoin(t, api.Vec{}, api.Vec{-3, -1})
	wantJoin(t, api.Vec{}, api.Vec{-3, -1}, api.Vec{math.MinInt, -9})
	wantJoin(t, api.Vec{5, 7}, api.Vec{-3, 7}, api.Vec{5, -1}, api.Vec{math.MinInt, math.MinInt})
	wantJoin(t, api.Vec{math.MaxInt, api.MaxSeq + 1}, api.Vec{math.MaxInt, 0}, api.Vec{0, api.MaxSeq + 1})
	for _, v := range pairs() {
		wantJoin(t, api.Vec{max(0, v[0]), max(0, v[1])}, v)
	}
}

func TestJoinMany(t *testing.T) { // P6.2
	r := rand.New(rand.NewPCG(19, 20))
	for range 300 {
		l := append(pairs(), some()...)
		r.Shuffle(len(l), func(i, k int) { l[i], l[k] = l[k], l[i] })
		l = l[:r.IntN(30)]
		firsts, seconds := []int{0}, []int{0}
		for _, v := range l {
			firsts, seconds = append(firsts, v[0]), append(seconds, v[1])
		}
		wantJoin(t, api.Vec{slices.Max(firsts), slices.Max(seconds)}, l...)
	}
}

func TestMeet(t *testing.T) { // P6.2
	for _, c := range [][3]api.Vec{
		{{1, 2}, {2, 1}, {1, 1}},
		{{1, 2}, {1, 2}, {1, 2}},
		{{1, 2}, {3, 4}, {1, 2}},
		{{5, 4}, {3, 4}, {3, 4}},
		{{0, api.MaxSeq}, {api.MaxSeq, 0}, {0, 0}},
		{{-1, 2}, {1, -2}, {-1, -2}}, // below 0, too
		{{math.MinInt, math.MaxInt}, {math.MaxInt, math.MinInt}, {math.MinInt, math.MinInt}},
	} {
		if got := vec.Meet(c[0], c[1]); got != c[2] {
			t.Errorf("Meet(%v, %v) = %v, want %v", c[0], c[1], got, c[2])
		}
	}
	for _, a := range pairs() {
		for _, b := range pairs() {
			want := api.Vec{slices.Min([]int{a[0], b[0]}), slices.Min([]int{a[1], b[1]})}
			if got := vec.Meet(a, b); got != want {
				t.Errorf("Meet(%v, %v) = %v, want %v", a, b, got, want)
			}
		}
	}
}

func TestLattice(t *testing.T) { // P6.5
	l := some()
	r := rand.New(rand.NewPCG(21, 22))
	for range 3000 {
		a, b, c := l[r.IntN(len(l))], l[r.IntN(len(l))], l[r.IntN(len(l))]
		j := vec.Join(a, b, c)
		for _, other := range []api.Vec{vec.Join(c, b, a), vec.Join(b, a, c), vec.Join(vec.Join(a, b), c), vec.Join(a, vec.Join(b, c)), vec.Join(a, b, c, a, b), vec.Join(j, j), vec.Join(j, a), vec.Join(b, api.Vec{}, a, c)} {
			if other != j {
				t.Errorf("joins of %v, %v, %v: %v and %v", a, b, c, j, other)
			}
		}
		m := vec.Meet(a, b)
		if m != vec.Meet(b, a) || vec.Meet(m, c) != vec.Meet(a, vec.Meet(b, c)) || vec.Meet(a, a) != a || vec.Meet(m, a) != m {
			t.Errorf("meets of %v, %v, %v hang on their order", a, b, c)
		}
		j = vec.Join(a, b)
		if !vec.Covers(j, a) || !vec.Covers(j, b) || !vec.Covers(a, m) || !vec.Covers(b, m) {
			t.Errorf("%v, %v: join %v, meet %v", a, b, j, m)
		}
		if vec.Covers(c, a) && vec.Covers(c, b) != vec.Covers(c, j) { // the least one that covers both
			t.Errorf("%v covers %v and %v, but not %v", c, a, b, j)
		}
		if vec.Covers(a, c) && vec.Covers(b, c) != vec.Covers(m, c) { // the greatest one that both cover
			t.Errorf("%v and %v cover %v, but %v doesn't", a, b, c, m)
		}
		for i := range 2 {
			lower, higher := j, m
			lower[i]--
			higher[i]++
			if vec.Covers(lower, a) && vec.Covers(lower, b) || vec.Covers(a, higher) && vec.Covers(b, higher) {
				t.Errorf("%v, %v: %v is not the least, or %v not the greatest one", a, b, j, m)
			}
		}
	}
}

func wantHas(t *testing.T, v api.Vec, site, seq int, want bool) {
	t.Helper()
	if got := vec.Has(v, site, seq); got != want {
		t.Errorf("Has(%v, %d, %d) = %t", v, site, seq, got)
	}
}

func TestHas(t *testing.T) { // P6.3
	for _, v := range pairs() {
		for i, count := range v {
			site := i + 1
			wantHas(t, v, site, 0, false)
			wantHas(t, v, site, -1, false)
			wantHas(t, v, site, math.MinInt, false)
			wantHas(t, v, site, 1, count >= 1)
			wantHas(t, v, site, 2, count >= 2)
			wantHas(t, v, site, count, count >= 1)
			wantHas(t, v, site, math.MaxInt, count == math.MaxInt)
			if count < math.MaxInt {
				wantHas(t, v, site, count+1, false)
			}
			if count > math.MinInt {
				wantHas(t, v, site, count-1, count >= 2)
			}
		}
		for _, site := range noSites {
			for _, seq := range append(slices.Clone(counts), v[0], v[1]) {
				wantHas(t, v, site, seq, false)
			}
		}
	}
	wantHas(t, api.Vec{1, 2}, 1, 2, false) // A's count stands first
	wantHas(t, api.Vec{1, 2}, 2, 2, true)
	wantHas(t, api.Vec{2, 1}, 1, 2, true)
	wantHas(t, api.Vec{2, 1}, 2, 2, false)
}

func TestNext(t *testing.T) { // P6.3
	for _, c := range []struct {
		v    api.Vec
		site int
		want api.Vec
	}{
		{api.Vec{}, 1, api.Vec{1, 0}},
		{api.Vec{}, 2, api.Vec{0, 1}},
		{api.Vec{1, 2}, 1, api.Vec{2, 2}},
		{api.Vec{1, 2}, 2, api.Vec{1, 3}},
		{api.Vec{api.MaxSeq - 1, 7}, 1, api.Vec{api.MaxSeq, 7}},
		{api.Vec{7, api.MaxSeq - 1}, 2, api.Vec{7, api.MaxSeq}},
		{api.Vec{api.MaxSeq, 7}, 2, api.Vec{api.MaxSeq, 8}}, // the other one's count plays no part
		{api.Vec{7, api.MaxSeq}, 1, api.Vec{8, api.MaxSeq}},
		{api.Vec{api.MaxSeq, api.MaxSeq - 1}, 2, api.Vec{api.MaxSeq, api.MaxSeq}},
	} {
		if got, e := vec.Next(c.v, c.site); got != c.want || e != api.OK {
			t.Errorf("Next(%v, %d) = %v, %d, want %v", c.v, c.site, got, int(e), c.want)
		}
	}
}

func wantNoNext(t *testing.T, v api.Vec, site int, want api.Errno) {
	t.Helper()
	if got, e := vec.Next(v, site); got != (api.Vec{}) || e != want {
		t.Errorf("Next(%v, %d) = %v, %d, want none and %d", v, site, got, int(e), int(want))
	}
}

func TestNextErrors(t *testing.T) { // P6.3
	for _, count := range []int{0, 1, api.MaxSeq - 1, api.MaxSeq} {
		wantNoNext(t, api.Vec{api.MaxSeq, count}, 1, api.ErrLong)
		wantNoNext(t, api.Vec{count, api.MaxSeq}, 2, api.ErrLong)
	}
	for _, v := range bad() { // among them such as are not good for the other site, while the site's own count is MaxSeq or more: both errors
		wantNoNext(t, v, 1, api.ErrArg)
		wantNoNext(t, v, 2, api.ErrArg)
	}
	for _, site := range noSites {
		for _, v := range pairs() {
			wantNoNext(t, v, site, api.ErrArg)
		}
	}
}

func TestNextCovers(t *testing.T) { // P6.6
	for _, v := range some() {
		for site := 1; site <= 2; site++ {
			next, e := vec.Next(v, site)
			switch {
			case v[site-1] == api.MaxSeq:
				wantNoNext(t, v, site, api.ErrLong)
			case e != api.OK || !vec.Good(next) || !vec.Covers(next, v) || vec.Covers(v, next):
				t.Errorf("Next(%v, %d) = %v, %d", v, site, next, int(e))
			case next[2-site] != v[2-site] || !vec.Has(next, site, next[site-1]) || vec.Has(v, site, next[site-1]):
				t.Errorf("Next(%v, %d) = %v, which is not one more of the site", v, site, next)
			}
		}
	}
}

func TestPut(t *testing.T) { // P6.4
	for v, want := range map[api.Vec]string{
		{}:               "\x00\x00",
		{5, 64}:          "\x05\x40\x40",
		{64, 5}:          "\x40\x40\x05",
		{1, 0}:           "\x01\x00",
		{0, 1}:           "\x00\x01",
		{16384, 63}:      "\x80\x00\x40\x00\x3f",
		{0, api.MaxSeq}:  "\x00\xc0\x00\x01\x00\x00\x00\x00\x00",
		{api.MaxSeq, 63}: "\xc0\x00\x01\x00\x00\x00\x00\x00\x3f",
	} {
		for _, ahead := range []string{"", "x", "\x40", "two words"} {
			if got := vec.Put([]byte(ahead), v); string(got) != ahead+want {
				t.Errorf("Put(%q, %v) = %x, want %x behind it", ahead, v, got, want)
			}
		}
	}
	if got := vec.Put(nil, api.Vec{5, 64}); string(got) != "\x05\x40\x40" {
		t.Errorf("Put(nil, (5, 64)) = %x", got)
	}
	for _, ahead := range []string{"", "x", "\x40", "two words"} {
		for _, v := range some() {
			if got := vec.Put([]byte(ahead), v); string(got) != ahead+string(both(v[0], v[1])) {
				t.Errorf("Put(%q, %v) = %x", ahead, v, got)
			}
		}
		for _, v := range bad() {
			if got := vec.Put([]byte(ahead), v); string(got) != ahead {
				t.Errorf("Put(%q, %v) = %x, want the bytes alone", ahead, v, got)
			}
		}
	}
}

func TestGet(t *testing.T) { // P6.4
	if v, n, e := vec.Get([]byte{0x05, 0x40, 0x40}); v != (api.Vec{5, 64}) || n != 3 || e != api.OK {
		t.Errorf("Get(05 40 40) = %v, %d, %d", v, n, int(e))
	}
	for _, behind := range []string{"", "\x00", "\x01", "\xff", "and more of them"} {
		for _, v := range some() {
			b := both(v[0], v[1])
			got, n, e := vec.Get(append(slices.Clone(b), behind...))
			if got != v || n != len(b) || e != api.OK {
				t.Errorf("Get of %v and %q = %v, %d, %d", v, behind, got, n, int(e))
			}
		}
	}
}

func wantNoPair(t *testing.T, b []byte, want api.Errno) {
	t.Helper()
	if v, n, e := vec.Get(b); v != (api.Vec{}) || n != 0 || e != want {
		t.Errorf("Get(%x) = %v, %d, %d, want none and %d", b, v, n, int(e), int(want))
	}
}

func TestGetErrors(t *testing.T) { // P6.4
	wantNoPair(t, nil, api.ErrCut)
	wantNoPair(t, []byte{}, api.ErrCut)
	for _, v := range some() { // the missing bytes stand behind the list's length
		b := both(v[0], v[1])
		for have := range len(b) {
			wantNoPair(t, b[:have], api.ErrCut)
		}
	}
	faults := map[string]api.Errno{"": api.ErrCut, "\x40": api.ErrCut, "\x80\x00\x40": api.ErrCut, "\xc0\x00\x00\x00\x00\x00\x00": api.ErrCut,
		"\x40\x00": api.ErrForm, "\x40\x3f": api.ErrForm, "\x80\x00\x3f\xff": api.ErrForm, "\xc0\x00\x00\x00\x3f\xff\xff\xff": api.ErrForm}
	for _, n := range []int{0, 5, 64, 16384, api.MaxSeq, api.MaxSeq + 1, api.MaxNum} { // the first count may be none, too: a number's error goes ahead of that
		for bytes, want := range faults {
			wantNoPair(t, append(probe.Laid(n), bytes...), want)
		}
	}
	for first, want := range faults {
		if want == api.ErrForm { // what is cut has nothing behind it
			for second := range faults {
				wantNoPair(t, []byte(first+second), want)
			}
			wantNoPair(t, []byte(first+"\x05\x05"), want)
		}
	}
	for _, n := range []int{api.MaxSeq + 1, api.MaxSeq + 2, 1 << 48, 1 << 61, api.MaxNum - 1, api.MaxNum} {
		for _, other := range []int{0, 5, api.MaxSeq, api.MaxSeq + 1, api.MaxNum} {
			wantNoPair(t, both(n, other), api.ErrForm)
			wantNoPair(t, both(other, n), api.ErrForm)
			wantNoPair(t, append(both(other, n), 5, 5), api.ErrForm)
		}
	}
}

func TestBack(t *testing.T) { // P6.4
	for _, v := range some() {
		for _, behind := range []string{"", "\x00", "\xc0", "whatever"} {
			b := vec.Put(nil, v)
			if got, n, e := vec.Get(append(slices.Clone(b), behind...)); got != v || n != len(b) || e != api.OK {
				t.Errorf("%v is put as %x, and got as %v, %d, %d", v, b, got, n, int(e))
			}
		}
	}
	check := func(b []byte) {
		v, n, e := vec.Get(b)
		if e == api.OK && (!vec.Good(v) || !bytes.Equal(vec.Put(nil, v), b[:n])) {
			t.Errorf("%x is got as %v, %d, and put as %x", b, v, n, vec.Put(nil, v))
		}
	}
	for i := range 1 << 16 {
		check([]byte{byte(i >> 8), byte(i), byte(i)})
	}
	r := rand.New(rand.NewPCG(23, 24))
	for range 20000 {
		b := binary.BigEndian.AppendUint64(nil, r.Uint64()>>r.IntN(64))
		b[0] ^= byte(r.Uint32()) & 0xc0
		check(append(b, b...))
	}
}

func TestHandedInStays(t *testing.T) { // rules 4 and 8
	for _, s := range []string{"", "\x05", "\x05\x40\x40", "\x05\x40", "\x40\x40", "\x40\x3f", "\x40"} {
		b, room := probe.Roomy([]byte(s), 0x05)
		before := slices.Clone(room)
		for _, v := range append(some(), bad()...) {
			vec.Put(b, v)
		}
		vec.Get(b)
		if !bytes.Equal(room, before) {
			t.Errorf("the memory of %x was changed", s)
		}
	}
	wantNoPair(t, []byte{0x05, 0x40, 0x40}[:2], api.ErrCut)
	wantNoPair(t, []byte{0x05, 0x05}[:1], api.ErrCut)
	l := []api.Vec{{1, 2}, {-1, 7}, {3, -9}, {api.MaxSeq, api.MaxSeq}, {math.MaxInt, math.MaxInt}}
	before := slices.Clone(l)
	wantJoin(t, api.Vec{3, 7}, l[:3]...) // what stands behind the length is more, and is not read
	if !slices.Equal(l, before) {
		t.Errorf("the memory of %v was changed: %v", before, l)
	}
	v := api.Vec{1, 2}
	vec.Next(v, 1)
	vec.Join(v, api.Vec{5, 5})
	vec.Meet(v, api.Vec{0, 0})
	if v != (api.Vec{1, 2}) {
		t.Errorf("a pair that was handed in has become %v", v)
	}
}

func TestHandedOutIsNew(t *testing.T) { // rule 4
	for _, s := range []string{"", "x", "some bytes"} {
		for _, v := range []api.Vec{{}, {5, 64}, {16384, 1}, {api.MaxSeq, api.MaxSeq}, {-1, 0}, {0, api.MaxSeq + 1}} {
			b, room := probe.Roomy([]byte(s), 0x05)
			if !probe.Apart(room, vec.Put(b, v), vec.Put(b, v), vec.Put(room, v), vec.Put(room, v)) {
				t.Errorf("lists handed out or in share memory, with %q and %v", s, v)
			}
		}
	}
}
