package frame_test

import (
	"bytes"
	"encoding/binary"
	"hash/crc32"
	"math"
	"math/bits"
	"math/rand/v2"
	"slices"
	"testing"

	"gemel/api"
	"gemel/frame"
	"gemel/probe"
)

// sizes are those of bodies around which a frame's form changes.
var sizes = []int{0, 1, 2, 3, 4, 5, 62, 63, 64, 65, 16383, 16384, 16385, 70000}

// summed tells bytes with their sum behind them, in another way than the program does: the library's sum takes the lowest bits first, and is else the same.
func summed(b []byte) []byte {
	turned := make([]byte, len(b))
	for i, c := range b {
		turned[i] = bits.Reverse8(c)
	}
	return binary.BigEndian.AppendUint32(slices.Clone(b), bits.Reverse32(crc32.ChecksumIEEE(turned)))
}

// laid tells what a body's frame is to be.
func laid(body []byte) []byte {
	return summed(slices.Concat([]byte{0xb5}, probe.Laid(len(body)), body))
}

// dice tells bytes by chance, the same ones for the same length.
func dice(n int) []byte {
	r := rand.New(rand.NewPCG(9, uint64(n)))
	b := make([]byte, n)
	for i := range b {
		b[i] = byte(r.Uint32())
	}
	return b
}

// some are bodies of many lengths and kinds; each shorter one of them has its frame within another one.
func some() [][]byte {
	out := [][]byte{nil, {}, {0}, {0xb5}, {0xb5, 0}, []byte("ab"), bytes.Repeat([]byte{0xb5}, 100)}
	for _, n := range sizes {
		out = append(out, dice(n))
	}
	for _, body := range slices.Clone(out) {
		if len(body) < 100 {
			out = append(out, laid(body), slices.Concat([]byte("x"), laid(body), laid(nil), []byte("y")))
		}
	}
	return out
}

// stub tells bytes that begin with a mark and a length.
func stub(length string, rest ...byte) []byte {
	return append([]byte("\xb5"+length), rest...)
}

// torn tells bytes without their last one, which stands behind the list's length.
func torn(b []byte) []byte {
	return b[:len(b)-1]
}

// turned tells bytes of which one is another one.
func turned(b []byte, at int) []byte {
	out := slices.Clone(b)
	out[at] ^= 0x10
	return out
}

func TestWrap(t *testing.T) { // P3.1
	for body, want := range map[string]string{"": "\xb5\x00\xda\x0b\x0e\x5a", "ab": "\xb5\x02ab\x36\x12\x9d\x38"} {
		if got := frame.Wrap([]byte(body)); string(got) != want {
			t.Errorf("Wrap(%q) = %x, want %x", body, got, want)
		}
	}
	for _, body := range some() {
		if got := frame.Wrap(body); !bytes.Equal(got, laid(body)) {
			t.Errorf("Wrap of %d bytes = %d bytes, %.20x", len(body), len(got), got)
		}
	}
}

func TestWrapMost(t *testing.T) { // P3.1
	most := dice(api.MaxFrame)
	got := frame.Wrap(most)
	if len(got) != api.MaxFrame+9 || string(got[:5]) != "\xb5\x80\x10\x00\x00" || !bytes.Equal(got, laid(most)) {
		t.Errorf("Wrap of MaxFrame bytes = %d bytes, %.20x", len(got), got)
	}
	for _, beyond := range []int{1, 2, api.MaxFrame} {
		if got := frame.Wrap(make([]byte, api.MaxFrame+beyond)); len(got) != 0 {
			t.Errorf("Wrap of MaxFrame and %d bytes = %d bytes, want none", beyond, len(got))
		}
	}
}

func TestOpen(t *testing.T) { // P3.2
	for _, body := range append(some(), dice(api.MaxFrame)) {
		for _, behind := range []string{"", "\x00", "\xb5", "bytes behind it", string(laid([]byte("other")))} {
			b := laid(body)
			got, size, e := frame.Open(append(b, behind...))
			if !bytes.Equal(got, body) || size != len(b) || e != api.OK {
				t.Errorf("Open of %d bytes' frame and %x = %d bytes, %d, %d", len(body), behind, len(got), size, int(e))
			}
		}
	}
}

func wantShut(t *testing.T, why string, b []byte, want api.Errno) {
	t.Helper()
	if body, size, e := frame.Open(b); len(body) != 0 || size != 0 || e != want {
		t.Errorf("%s: Open(%.20x) = %x, %d, %d, want nothing and %d", why, b, body, size, int(e), int(want))
	}
}

func TestOpenErrors(t *testing.T) { // P3.2
	wantShut(t, "no bytes", nil, api.ErrCut)
	wantShut(t, "no bytes", []byte{}, api.ErrCut)
	wantShut(t, "all stands behind the length", laid(nil)[:0], api.ErrCut)
	for first := range 256 {
		if first != 0xb5 {
			wantShut(t, "another mark", append([]byte{byte(first)}, laid([]byte("ab"))[1:]...), api.ErrMark)
			wantShut(t, "another mark", []byte{byte(first)}, api.ErrMark)
		}
	}
	for _, length := range []string{"", "\x40", "\x7f", "\x80", "\x80\x00\x40", "\xc0", "\xc0\x00\x00\x00\x40\x00\x00"} {
		wantShut(t, "a length that is cut", stub(length), api.ErrCut)
	}
	for _, length := range []string{"\x40\x01", "\x40\x3f", "\x80\x00\x00\x01", "\x80\x00\x3f\xff", "\xc0\x00\x00\x00\x00\x00\x00\x01", "\xc0\x00\x00\x00\x00\x00\x40\x00"} {
		wantShut(t, "a length in no form", stub(length, 'a'), api.ErrForm)
	}
	for _, length := range []string{"\x80\x10\x00\x01", "\x80\x20\x00\x00", "\xbf\xff\xff\xff", "\xc0\x00\x00\x00\x40\x00\x00\x00", "\xc0\x00\x00\x01\x00\x00\x00\x00", "\xff\xff\xff\xff\xff\xff\xff\xff"} {
		wantShut(t, "a length above MaxFrame", stub(length), api.ErrLong)
	}
	for _, body := range some() {
		b := laid(body)
		for have := 1; have < len(b) && have < 100; have++ {
			wantShut(t, "a beginning alone", b[:have], api.ErrCut)
			wantShut(t, "an end that lacks", b[:len(b)-have], api.ErrCut)
		}
		for back := 1; back <= 4; back++ {
			wantShut(t, "another sum", turned(b, len(b)-back), api.ErrSum)
		}
	}
	most := laid(dice(api.MaxFrame))
	wantShut(t, "MaxFrame bytes, the last one of the frame lacks", torn(most), api.ErrCut)
	wantShut(t, "MaxFrame bytes, the length alone", most[:5], api.ErrCut)
	wantShut(t, "MaxFrame bytes, another sum", turned(most, len(most)-1), api.ErrSum)
	wantShut(t, "the sum of the body alone", append([]byte("\xb5\x02"), summed([]byte("ab"))...), api.ErrSum)
	wantShut(t, "the sum's lowest byte first", append([]byte("\xb5\x02ab"), reversedSum("\xb5\x02ab")...), api.ErrSum)
	wantShut(t, "a turned frame, a right one behind it", append(turned(laid([]byte("ab")), 2), laid(nil)...), api.ErrSum)
}

// reversedSum tells a text's sum, its lowest byte first.
func reversedSum(s string) []byte {
	sum := summed([]byte(s))[len(s):]
	slices.Reverse(sum)
	return sum
}

// Of each pair of errors that both apply the one that is named first is told.
func TestOpenErrorsInOrder(t *testing.T) { // P3.2
	long := summed(stub("\x80\x10\x00\x01", dice(api.MaxFrame+1)...))
	formless := summed(stub("\x40\x02", 'a', 'b'))
	for _, c := range []struct {
		why  string
		b    []byte
		want api.Errno
	}{
		{"mark, length cut", []byte("\xb4\x40"), api.ErrMark},
		{"mark, no length", []byte("\x00"), api.ErrMark},
		{"mark, form", []byte("\xb4\x40\x01a"), api.ErrMark},
		{"mark, long", []byte("\xb4\x80\x10\x00\x01"), api.ErrMark},
		{"mark, cut", append([]byte("\xb4"), torn(laid([]byte("ab")))[1:]...), api.ErrMark},
		{"mark, sum", append([]byte("\xb4"), laid([]byte("ab"))[1:]...), api.ErrMark},
		{"mark, though the sum is right", summed([]byte("\xb4\x02ab")), api.ErrMark},
		{"length cut, form", stub("\x40"), api.ErrCut},
		{"length cut, form", stub("\xc0\x00\x00\x00\x00\x00\x00"), api.ErrCut},
		{"length cut, long", stub("\xff\xff"), api.ErrCut},
		{"length cut, sum", stub("\xbf", summed([]byte("\xb5\xbf"))[2:4]...), api.ErrCut},
		{"form, long", stub("\xc0\x00\x00\x00\x00\x10\x00\x01"), api.ErrForm},
		{"form, cut", stub("\x40\x02"), api.ErrForm},
		{"form, cut", torn(formless), api.ErrForm},
		{"form, sum", turned(formless, 3), api.ErrForm},
		{"form, though the sum is right", formless, api.ErrForm},
		{"long, cut", stub("\x80\x10\x00\x01"), api.ErrLong},
		{"long, cut", torn(long), api.ErrLong},
		{"long, sum", turned(long, 9), api.ErrLong},
		{"long, though the sum is right", long, api.ErrLong},
		{"cut, sum", torn(turned(laid([]byte("ab")), 2)), api.ErrCut},
		{"cut, sum", append(stub("\x03"), summed([]byte("\xb5\x03ab"))[2:]...), api.ErrCut},
	} {
		wantShut(t, c.why, c.b, c.want)
	}
}

func wantRows(t *testing.T, why string, b []byte, bodies [][]byte, size int, want api.Errno) {
	t.Helper()
	l, n, e := frame.Rows(b)
	if !slices.EqualFunc(l, bodies, bytes.Equal) || n != size || e != want {
		t.Errorf("%s: Rows of %d bytes = %d bodies, %d, %d, want %d, %d, %d", why, len(b), len(l), n, int(e), len(bodies), size, int(want))
	}
}

func TestRows(t *testing.T) { // P3.3
	wantRows(t, "no bytes", nil, nil, 0, api.OK)
	wantRows(t, "no bytes", []byte{}, nil, 0, api.OK)
	wantRows(t, "the example", append(laid(nil), 0xb5), [][]byte{{}}, 6, api.ErrCut)
	var b []byte
	bodies := append(some(), nil, dice(api.MaxFrame), nil)
	for i, body := range bodies {
		b = append(b, laid(body)...)
		wantRows(t, "frames alone", b, bodies[:i+1], len(b), api.OK)
	}
}

func TestRowsErrors(t *testing.T) { // P3.3
	for want, ends := range map[api.Errno][]string{
		api.ErrCut:  {"\xb5", "\xb5\x40", "\xb5\x05", string(torn(laid([]byte("torn")))), string(torn(laid(nil)))},
		api.ErrMark: {"\x00", "x", "other bytes", "\x00" + string(laid([]byte("hidden")))},
		api.ErrForm: {"\xb5\x40\x3f", "\xb5\x80\x00\x00\x01" + string(laid(nil))},
		api.ErrLong: {"\xb5\x80\x10\x00\x01", "\xb5\xff\xff\xff\xff\xff\xff\xff\xff" + string(laid(nil))},
		api.ErrSum:  {string(turned(laid([]byte("turned")), 3)), string(turned(laid(nil), 5)) + string(laid(nil))},
	} {
		for _, end := range ends {
			bodies := [][]byte{nil, []byte("ab"), dice(64), laid(nil)}
			var b []byte
			for i := range len(bodies) + 1 {
				wantRows(t, "frames, and what is none", append(slices.Clone(b), end...), bodies[:i], len(b), want)
				if i < len(bodies) {
					b = append(b, laid(bodies[i])...)
				}
			}
		}
	}
}

func wantNext(t *testing.T, b []byte, from, want int) {
	t.Helper()
	if got := frame.Next(b, from); got != want {
		t.Errorf("Next(%.40x, %d) = %d, want %d", b, from, got, want)
	}
}

func TestNext(t *testing.T) { // P3.4
	// Frames begin at 2, 10 and 16; there are 25 bytes.
	b := slices.Concat([]byte("\x01\x02"), laid([]byte("ab")), laid(nil), laid([]byte("c")), []byte("\xb5\x00"))
	for from := -3; from <= 2; from++ {
		wantNext(t, b, from, 2)
	}
	for from := 3; from <= 10; from++ { // within the first one, and at the second one's beginning
		wantNext(t, b, from, 10)
	}
	for from := 11; from <= 16; from++ {
		wantNext(t, b, from, 16)
	}
	for from := 17; from <= len(b)+3; from++ { // what is left is torn
		wantNext(t, b, from, -1)
	}
	for _, from := range []int{math.MinInt, math.MinInt + 1, -1 << 40} {
		wantNext(t, b, from, 2)
		wantNext(t, laid(nil), from, 0)
	}
	for _, from := range []int{1 << 40, math.MaxInt - 1, math.MaxInt} {
		wantNext(t, b, from, -1)
	}
	long := laid(dice(api.MaxFrame))
	wantNext(t, append([]byte{0xb5}, long...), 0, 1)
	wantNext(t, torn(long)[:200], 0, -1)
}

func TestNextOfNoFrame(t *testing.T) { // P3.4
	for _, s := range []string{"", "\x00", "\xb5", "\xb5\x00", "no frame at all", "\xb5\xb5\xb5\xb5\xb5\xb5\xb5\xb5\xb5\xb5", "\xb5\x80\x10\x00\x01\xb5\x40\x01a", string(torn(laid([]byte("ab")))), string(turned(laid([]byte("ab")), 3)), string(laid([]byte("ab"))[1:])} {
		for from := -2; from <= len(s)+2; from++ {
			wantNext(t, []byte(s), from, -1)
		}
	}
	wantNext(t, nil, 0, -1)
	wantNext(t, laid([]byte("all stands behind the length"))[:0], 0, -1)
}

func TestNextWithinBody(t *testing.T) { // P3.4
	inner := laid([]byte("in"))
	outer := laid(slices.Concat([]byte("ahead"), inner, []byte("behind")))
	wantNext(t, outer, 0, 0)
	for from := 1; from <= 7; from++ {
		wantNext(t, outer, from, 7)
	}
	for from := 8; from <= len(outer); from++ {
		wantNext(t, outer, from, -1)
	}
	wantNext(t, torn(outer), 0, 7) // the outer one is none any more
	wantNext(t, turned(outer, 3), 0, 7)
	wantNext(t, turned(outer, 9), 0, -1)
	wantNext(t, append(turned(outer, 9), inner...), 0, len(outer))
	wantRows(t, "a frame within a body", outer, [][]byte{slices.Concat([]byte("ahead"), inner, []byte("behind"))}, len(outer), api.OK)
}

func TestBack(t *testing.T) { // P3.5
	for _, body := range append(some(), dice(api.MaxFrame-1), dice(api.MaxFrame)) {
		b := frame.Wrap(body)
		for _, behind := range []string{"", "\x00", "\xb5", "whatever", string(b[:min(len(b), 50)])} {
			got, size, e := frame.Open(append(slices.Clone(b), behind...))
			if !bytes.Equal(got, body) || size != len(b) || e != api.OK {
				t.Errorf("%d bytes are wrapped, and opened as %d bytes, %d, %d", len(body), len(got), size, int(e))
			}
		}
	}
}

func TestTornAnywhere(t *testing.T) { // P3.6
	bodies := [][]byte{nil, []byte("a"), dice(63), laid(nil), dice(64), nil, {0xb5}, dice(300), bytes.Repeat([]byte{0xb5}, 70), []byte("the last one")}
	var b []byte
	ends := []int{0}
	for _, body := range bodies {
		b = append(b, frame.Wrap(body)...)
		ends = append(ends, len(b))
	}
	whole := 0
	for cut := range len(b) + 1 { // what was cut off stands behind the list's length
		want := api.ErrCut
		if whole+1 < len(ends) && ends[whole+1] == cut {
			whole++
		}
		if ends[whole] == cut {
			want = api.OK
		}
		wantRows(t, "cut", b[:cut], bodies[:whole], ends[whole], want)
	}
}

func TestTurnedAnywhere(t *testing.T) { // P3.7
	r := rand.New(rand.NewPCG(10, 11))
	for _, body := range [][]byte{nil, {0}, []byte("ab"), []byte("abc"), dice(20), dice(63), dice(64), dice(300), laid([]byte("in"))} {
		b := frame.Wrap(body)
		for at := 1 + len(probe.Laid(len(body))); at < len(b); at++ {
			for turn := 1; turn < 256; turn++ {
				wantTurnedShut(t, b, at, []byte{byte(turn)})
			}
			for _, turns := range []string{"\xff\xff", "\x01\x00\x80", "\x80\x00\x00\x01", "\xff\xff\xff\xff", "\x04\xc1\x1d\xb7", "\x82\x60\x8e\xdb", "\x00\x01\x04\xc1"} {
				wantTurnedShut(t, b, at, []byte(turns))
			}
			for range 50 {
				wantTurnedShut(t, b, at, binary.BigEndian.AppendUint32(nil, r.Uint32()|1))
			}
		}
	}
}

// wantTurnedShut asks that a frame is not opened when the bytes from a place on are turned; such as reach beyond its end are passed over.
func wantTurnedShut(t *testing.T, b []byte, at int, turns []byte) {
	t.Helper()
	if at+len(turns) > len(b) {
		return
	}
	other := slices.Clone(b)
	for i, x := range turns {
		other[at+i] ^= x
	}
	wantShut(t, "turned", other, api.ErrSum)
	if got := frame.Next(other, 0); got == 0 {
		t.Errorf("%.20x, turned at %d by %x: a frame begins at 0", b, at, turns)
	}
}

func TestHandedInStays(t *testing.T) { // rules 4 and 8
	for _, s := range [][]byte{nil, []byte("body"), laid([]byte("ab")), append(laid(nil), laid([]byte("ab"))...), append(laid([]byte("ab")), 0xb5), turned(laid([]byte("ab")), 2), stub("\x40\x01a")} {
		b, all := probe.Roomy(s, 0xb5)
		before := slices.Clone(all)
		frame.Wrap(b)
		frame.Open(b)
		frame.Rows(b)
		for from := -1; from <= len(b)+1; from++ {
			frame.Next(b, from)
		}
		if !bytes.Equal(all, before) {
			t.Errorf("the memory of %x was changed", s)
		}
	}
}

func wantApart(t *testing.T, what string, lists ...[]byte) {
	t.Helper()
	if !probe.Apart(lists...) {
		t.Errorf("%s: lists share memory", what)
	}
}

func TestHandedOutIsNew(t *testing.T) { // rule 4
	for _, s := range []string{"", "a", "some bytes", string(dice(64))} {
		b, all := probe.Roomy([]byte(s), 0xb5)
		wantApart(t, "Wrap", all, frame.Wrap(b), frame.Wrap(b))
		b, all = probe.Roomy(laid([]byte(s)), 0xb5)
		one, _, _ := frame.Open(b)
		two, _, _ := frame.Open(b)
		wantApart(t, "Open", all, one, two)
		b, all = probe.Roomy(append(laid([]byte(s)), laid([]byte("x"+s))...), 0xb5)
		l, _, _ := frame.Rows(b)
		m, _, _ := frame.Rows(b)
		wantApart(t, "Rows", all, l[0], l[1], m[0], m[1])
		l[0], l[1] = nil, nil
		if string(m[1]) != "x"+s {
			t.Error("two lists of Rows share their memory")
		}
	}
}
