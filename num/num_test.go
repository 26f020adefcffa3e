package num_test

import (
	"bytes"
	"math"
	"math/rand/v2"
	"slices"
	"strings"
	"testing"

	"gemel/api"
	"gemel/num"
	"gemel/probe"
)

// edges are the numbers that can be laid, around which the count of bytes or the highest bits change.
var edges = []int{0, 1, 2, 62, 63, 64, 65, 255, 256, 16382, 16383, 16384, 16385, 65535, 65536, 1<<24 - 1, 1 << 24, 1<<30 - 2, 1<<30 - 1, 1 << 30, 1<<30 + 1, 1<<32 - 1, 1 << 32, 1<<61 - 1, 1 << 61, api.MaxNum - 1, api.MaxNum}

// none are the numbers that can't be laid.
var none = []int{-1, -2, -63, -64, -1 << 30, math.MinInt, math.MinInt + 1, api.MaxNum + 1, api.MaxNum + 2, math.MaxInt - 1, math.MaxInt}

// some tells the edges, and numbers of each length between them; always the same ones.
func some() []int {
	r := rand.New(rand.NewPCG(1, 2))
	out := slices.Clone(edges)
	for range 300 {
		out = append(out, int(r.Uint64()>>2)>>r.IntN(62))
	}
	return out
}

func TestSize(t *testing.T) { // P1.1
	for n, want := range map[int]int{0: 1, 1: 1, 63: 1, 64: 2, 16383: 2, 16384: 4, 1<<30 - 1: 4, 1 << 30: 8, 1 << 32: 8, api.MaxNum - 1: 8, api.MaxNum: 8} {
		if got := num.Size(n); got != want {
			t.Errorf("Size(%d) = %d, want %d", n, got, want)
		}
	}
	for _, n := range none {
		if got := num.Size(n); got != 0 {
			t.Errorf("Size(%d) = %d, want 0", n, got)
		}
	}
	for _, n := range some() {
		if got := num.Size(n); got != len(probe.Laid(n)) {
			t.Errorf("Size(%d) = %d, want %d", n, got, len(probe.Laid(n)))
		}
	}
}

func TestPut(t *testing.T) { // P1.1
	for n, want := range map[int]string{
		0:           "\x00",
		63:          "\x3f",
		64:          "\x40\x40",
		16383:       "\x7f\xff",
		16384:       "\x80\x00\x40\x00",
		1<<30 - 1:   "\xbf\xff\xff\xff",
		1 << 30:     "\xc0\x00\x00\x00\x40\x00\x00\x00",
		api.MaxNum:  "\xff\xff\xff\xff\xff\xff\xff\xff",
		0x010203:    "\x80\x01\x02\x03",
		1<<56 | 0x2: "\xc1\x00\x00\x00\x00\x00\x00\x02",
	} {
		if got := num.Put(nil, n); string(got) != want {
			t.Errorf("Put(nil, %d) = %x, want %x", n, got, want)
		}
	}
	for _, ahead := range []string{"", "x", "\x40", "two words"} {
		for _, n := range some() {
			if got := num.Put([]byte(ahead), n); string(got) != ahead+string(probe.Laid(n)) {
				t.Errorf("Put(%q, %d) = %x", ahead, n, got)
			}
		}
		for _, n := range none {
			if got := num.Put([]byte(ahead), n); string(got) != ahead {
				t.Errorf("Put(%q, %d) = %x, want the bytes alone", ahead, n, got)
			}
		}
	}
}

func TestGet(t *testing.T) { // P1.2
	for _, behind := range []string{"", "\x00", "\xff\xff", "and more of them"} {
		for _, n := range some() {
			b := probe.Laid(n)
			got, size, e := num.Get(append(slices.Clone(b), behind...))
			if got != n || size != len(b) || e != api.OK {
				t.Errorf("Get of %d and %q = %d, %d, %d", n, behind, got, size, int(e))
			}
		}
	}
}

func wantNoNumber(t *testing.T, b []byte, want api.Errno) {
	t.Helper()
	if n, size, e := num.Get(b); n != 0 || size != 0 || e != want {
		t.Errorf("Get(%x) = %d, %d, %d, want 0, 0, %d", b, n, size, int(e), int(want))
	}
}

func TestGetCut(t *testing.T) { // P1.2
	wantNoNumber(t, nil, api.ErrCut)
	wantNoNumber(t, []byte{}, api.ErrCut)
	for first := range 256 {
		size := 1 << (first >> 6)
		for _, rest := range []byte{0x00, 0xff} { // too few of a number in more bytes than it needs: cut comes first
			for have := 1; have < size; have++ {
				wantNoNumber(t, append([]byte{byte(first)}, bytes.Repeat([]byte{rest}, have-1)...), api.ErrCut)
			}
		}
	}
	for _, n := range some() { // the missing bytes stand behind the list's length
		b := probe.Laid(n)
		for have := range len(b) {
			wantNoNumber(t, b[:have], api.ErrCut)
		}
	}
}

func TestGetForm(t *testing.T) { // P1.2
	for _, s := range []string{"\x40\x00", "\x40\x3f", "\x80\x00\x00\x00", "\x80\x00\x00\x3f", "\x80\x00\x00\x40", "\x80\x00\x3f\xff", "\xc0\x00\x00\x00\x00\x00\x00\x00", "\xc0\x00\x00\x00\x00\x00\x00\x3f", "\xc0\x00\x00\x00\x00\x00\x3f\xff", "\xc0\x00\x00\x00\x00\x00\x40\x00", "\xc0\x00\x00\x00\x3f\xff\xff\xff"} {
		wantNoNumber(t, []byte(s), api.ErrForm)
		wantNoNumber(t, []byte(s+"\x05"), api.ErrForm)
	}
	for _, s := range []string{"\x40\x40", "\x80\x00\x40\x00", "\xc0\x00\x00\x00\x40\x00\x00\x00"} {
		if _, size, e := num.Get([]byte(s)); size != len(s) || e != api.OK {
			t.Errorf("Get(%x) = %d bytes, %d", s, size, int(e))
		}
	}
}

func TestPutText(t *testing.T) { // P1.3
	for _, n := range []int{0, 1, 2, 63, 64, 65, 16383, 16384, 70000} {
		s := strings.Repeat("\xfe\x00é", n)[:n]
		for _, ahead := range []string{"", "x", "ahead"} {
			if got := num.PutText([]byte(ahead), s); string(got) != ahead+string(probe.Laid(n))+s {
				t.Errorf("PutText(%q, %d bytes) = %d bytes", ahead, n, len(got))
			}
		}
	}
}

func TestGetText(t *testing.T) { // P1.3
	for _, n := range []int{0, 1, 2, 63, 64, 65, 16383, 16384, 70000} {
		s := strings.Repeat("\xfe\x00é", n)[:n]
		b := append(probe.Laid(n), s...)
		for _, most := range []int{n, n + 1, math.MaxInt} {
			for _, behind := range []string{"", "\x00", "behind"} {
				got, size, e := num.GetText(append(slices.Clone(b), behind...), most)
				if got != s || size != len(b) || e != api.OK {
					t.Errorf("GetText of %d bytes, at most %d = %d bytes, %d, %d", n, most, len(got), size, int(e))
				}
			}
		}
	}
}

func wantNoText(t *testing.T, b []byte, most int, want api.Errno) {
	t.Helper()
	if s, size, e := num.GetText(b, most); s != "" || size != 0 || e != want {
		t.Errorf("GetText(%.20x, %d) = %q, %d, %d, want nothing and %d", b, most, s, size, int(e), int(want))
	}
}

func TestGetTextErrors(t *testing.T) { // P1.3
	for _, most := range []int{math.MinInt, -1, 0, 1, math.MaxInt} { // the length's own errors
		wantNoText(t, nil, most, api.ErrCut)
		wantNoText(t, []byte("\x40"), most, api.ErrCut)
		wantNoText(t, []byte("\xc0\x00\x00\x00\x40\x00\x00"), most, api.ErrCut)
		wantNoText(t, []byte("\x40\x01a"), most, api.ErrForm)
		wantNoText(t, []byte("\x80\x00\x00\x01a"), most, api.ErrForm)
	}
	for _, n := range []int{1, 2, 63, 64, 65, 16384} {
		b := append(probe.Laid(n), bytes.Repeat([]byte("z"), n)...)
		for _, most := range []int{n - 1, 0, -1, math.MinInt} {
			wantNoText(t, b, most, api.ErrLong)
			wantNoText(t, b[:len(b)-1], most, api.ErrLong) // cut as well: the length comes first
		}
		for _, most := range []int{n, n + 1, math.MaxInt} { // the missing bytes stand behind the list's length
			wantNoText(t, b[:len(b)-1], most, api.ErrCut)
			wantNoText(t, b[:len(b)-n], most, api.ErrCut)
		}
	}
	for _, most := range []int{-1, -2, math.MinInt} { // even the text without a byte is longer
		wantNoText(t, []byte("\x00"), most, api.ErrLong)
		wantNoText(t, []byte("\x00more"), most, api.ErrLong)
	}
	for _, n := range edges[5:] {
		wantNoText(t, append(probe.Laid(n), "few"...), n, api.ErrCut)
		wantNoText(t, append(probe.Laid(n), "few"...), math.MaxInt, api.ErrCut)
		wantNoText(t, append(probe.Laid(n), "few"...), n-1, api.ErrLong)
	}
}

func TestAll(t *testing.T) { // P1.4
	for _, b := range [][]byte{nil, {}} {
		if l, e := num.All(b); len(l) != 0 || e != api.OK {
			t.Errorf("All of nothing = %v, %d", l, int(e))
		}
	}
	var b []byte
	var want []int
	for _, n := range append(some(), 7, 7, 0, 0) {
		b, want = append(b, probe.Laid(n)...), append(want, n)
		if l, e := num.All(b); !slices.Equal(l, want) || e != api.OK {
			t.Fatalf("All of %d numbers up to %d = %d numbers, %d", len(want), n, len(l), int(e))
		}
	}
}

func TestAllErrors(t *testing.T) { // P1.4
	for bad, want := range map[string]api.Errno{"\x40": api.ErrCut, "\x80\x01\x02": api.ErrCut, "\xc0\x00\x00\x00\x00\x00\x00": api.ErrCut, "\x40\x3f": api.ErrForm, "\x80\x00\x3f\xff": api.ErrForm, "\x40\x3f\x40": api.ErrForm, "\x40\x00\x05\x06": api.ErrForm} {
		for _, ahead := range []string{"", "\x05", "\x05\x40\x40\x80\x00\x40\x00"} {
			if l, e := num.All([]byte(ahead + bad)); len(l) != 0 || e != want {
				t.Errorf("All(%x) = %v, %d, want none and %d", ahead+bad, l, int(e), int(want))
			}
		}
	}
	all := []byte{0x05, 0x40, 0x40}
	if l, e := num.All(all[:2]); len(l) != 0 || e != api.ErrCut {
		t.Errorf("All of bytes whose last one stands behind the length = %v, %d", l, int(e))
	}
}

func TestBackFromNumbers(t *testing.T) { // P1.5
	for _, behind := range []string{"", "\x00", "\xc0", "whatever"} {
		for _, n := range some() {
			b := num.Put(nil, n)
			if got, size, e := num.Get(append(slices.Clone(b), behind...)); got != n || size != len(b) || e != api.OK {
				t.Errorf("%d is put as %x, and got as %d, %d, %d", n, b, got, size, int(e))
			}
		}
		for _, n := range []int{0, 1, 63, 64, 16384} {
			s := strings.Repeat("\x80", n)
			b := num.PutText(nil, s)
			if got, size, e := num.GetText(append(slices.Clone(b), behind...), n); got != s || size != len(b) || e != api.OK {
				t.Errorf("a text of %d bytes is got as %d, %d, %d", n, len(got), size, int(e))
			}
		}
	}
}

func TestBackFromBytes(t *testing.T) { // P1.5
	check := func(b []byte) {
		if n, size, e := num.Get(b); e == api.OK && !bytes.Equal(num.Put(nil, n), b[:size]) {
			t.Errorf("%x is got as %d, and put as %x", b, n, num.Put(nil, n))
		}
		if s, size, e := num.GetText(b, len(b)); e == api.OK && !bytes.Equal(num.PutText(nil, s), b[:size]) {
			t.Errorf("%x is got as %q, and put as %x", b, s, num.PutText(nil, s))
		}
		l, e := num.All(b)
		if e != api.OK {
			return
		}
		var back []byte
		for _, n := range l {
			back = num.Put(back, n)
		}
		if !bytes.Equal(back, b) {
			t.Errorf("%x is got as %d, and put as %x", b, l, back)
		}
	}
	for i := range 1 << 16 {
		check([]byte{byte(i >> 8), byte(i)})
	}
	r := rand.New(rand.NewPCG(3, 4))
	for range 20000 {
		b := make([]byte, r.IntN(20))
		for i := range b {
			b[i] = byte(r.Uint32()) & []byte{0, 0x3f, 0xff}[r.IntN(3)]
		}
		if len(b) > 0 {
			b[0] ^= byte(r.Uint32()) & 0xc0
		}
		check(b)
	}
}

func TestOrder(t *testing.T) { // P1.6
	l := some()
	slices.Sort(l)
	l = slices.Compact(l)
	for i, n := range l {
		b := num.Put(nil, n)
		for _, m := range l[i+1:] {
			c := num.Put(nil, m)
			if len(b) == len(c) && bytes.Compare(b, c) >= 0 {
				t.Errorf("%d is below %d, but %x is not below %x", n, m, b, c)
			}
			if bytes.HasPrefix(b, c) || bytes.HasPrefix(c, b) {
				t.Errorf("of %d and %d one's bytes begin the other one's: %x, %x", n, m, b, c)
			}
		}
	}
}

func TestHandedInStays(t *testing.T) { // rules 4 and 8
	for _, s := range []string{"", "\x05", "\x02ab", "\x40\x40", "\x05\x40", "\x40\x3f"} {
		b, all := probe.Roomy([]byte(s), 0xA5)
		before := slices.Clone(all)
		for _, n := range append(slices.Clone(edges), none...) {
			num.Put(b, n)
		}
		for _, text := range []string{"", "a", strings.Repeat("a", 40)} {
			num.PutText(b, text)
		}
		num.Get(b)
		num.GetText(b, 2)
		num.All(b)
		if !bytes.Equal(all, before) {
			t.Errorf("the memory of %x was changed", s)
		}
	}
}

func wantApart(t *testing.T, what string, lists ...[]byte) {
	t.Helper()
	if !probe.Apart(lists...) {
		t.Errorf("%s: what was handed out shares memory", what)
	}
}

func TestHandedOutIsNew(t *testing.T) { // rule 4
	for _, s := range []string{"", "x", "some bytes"} {
		b, all := probe.Roomy([]byte(s), 0xA5)
		for _, n := range append(slices.Clone(edges), none...) {
			wantApart(t, "Put", num.Put(b, n), all)
			wantApart(t, "Put", num.Put(all, n), all)
		}
		for _, text := range []string{"", "a", strings.Repeat("a", 40)} {
			wantApart(t, "PutText", num.PutText(b, text), all)
		}
		one, two := num.Put(b, 5), num.Put(b, 500)
		wantApart(t, "two of Put", one, two)
		one, two = num.PutText(b, "a"), num.PutText(b, "bc")
		wantApart(t, "two of PutText", one, two)
	}
	b := []byte("\x03abc")
	s, _, _ := num.GetText(b, 3)
	copy(b, "\x03xyz")
	if s != "abc" {
		t.Errorf("the text that was got has become %q", s)
	}
	one, _ := num.All([]byte{1, 2})
	two, _ := num.All([]byte{1, 2})
	one[0] = 9
	if two[0] != 1 {
		t.Error("two lists of All share their memory")
	}
}
