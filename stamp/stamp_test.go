package stamp_test

import (
	"bytes"
	"cmp"
	"encoding/binary"
	"math"
	"math/rand/v2"
	"regexp"
	"slices"
	"strconv"
	"strings"
	"testing"

	"gemel/api"
	"gemel/probe"
	"gemel/stamp"
)

// may are stamps that may be, each behind the one ahead of it.
var may = []api.Stamp{{}, {N: 1, Site: 1}, {N: 1, Site: 2}, {N: 2, Site: 1}, {N: 2, Site: 2}, {N: 5, Site: 1}, {N: 6, Site: 2}, {N: 9, Site: 2}, {N: 10, Site: 1}, {N: 31, Site: 1}, {N: 31, Site: 2}, {N: 32, Site: 1}, {N: 8191, Site: 2}, {N: 8192, Site: 1}, {N: 1<<29 - 1, Site: 2}, {N: 1 << 29, Site: 1}, {N: api.MaxTime - 1, Site: 2}, {N: api.MaxTime, Site: 1}, {N: api.MaxTime, Site: 2}, {N: api.MaxTime + 1, Site: 1}, {N: api.MaxCount - 1, Site: 1}, {N: api.MaxCount - 1, Site: 2}, {N: api.MaxCount, Site: 1}, {N: api.MaxCount, Site: 2}}

// numbers and sites are those around which a stamp may be no more, and those at which a sum would leave its type's range.
var (
	numbers = []int{math.MinInt, math.MinInt + 1, -1 << 62, -api.MaxCount, -2, -1, 0, 1, 2, 3, 63, 64, api.MaxTime, api.MaxCount - 1, api.MaxCount, api.MaxCount + 1, api.MaxCount + 2, 1 << 61, 1<<61 + 1, 1 << 62, 1<<62 + 1, math.MaxInt - 1, math.MaxInt}
	sites   = []int{math.MinInt, -1, 0, 1, 2, 3, 4, 257, 258, 1 << 32, 1<<32 + 1, math.MaxInt}
)

// all tells all stamps of these numbers and sites.
func all() []api.Stamp {
	var out []api.Stamp
	for _, n := range numbers {
		for _, site := range sites {
			out = append(out, api.Stamp{N: n, Site: site})
		}
	}
	return out
}

// mayBe tells in another way than the program does whether a stamp may be.
func mayBe(s api.Stamp) bool {
	switch s.Site {
	case 0:
		return s.N == 0
	case 1, 2:
		return 0 < s.N && s.N < 1<<48+1
	}
	return false
}

// bad tells those stamps of all that may not be.
func bad() []api.Stamp {
	return slices.DeleteFunc(all(), mayBe)
}

// some tells the stamps that may be, and others of each length; always the same ones.
func some() []api.Stamp {
	r := rand.New(rand.NewPCG(11, 12))
	out := slices.Clone(may)
	for range 300 {
		n := 1 + r.IntN(api.MaxCount)>>r.IntN(48)
		out = append(out, api.Stamp{N: n, Site: 1 + r.IntN(2)})
	}
	return out
}

// codeOf tells what a stamp's code is to be.
func codeOf(s api.Stamp) int {
	switch s.Site {
	case 1:
		return s.N << 1
	case 2:
		return s.N<<1 | 1
	}
	return 0
}

func TestGood(t *testing.T) { // P5.1
	for s, want := range map[api.Stamp]bool{
		{}:                              true,
		{N: 1, Site: 1}:                 true,
		{N: 1, Site: 2}:                 true,
		{N: api.MaxCount, Site: 1}:      true,
		{N: api.MaxCount, Site: 2}:      true,
		{N: 0, Site: 1}:                 false,
		{N: 0, Site: 2}:                 false,
		{N: 0, Site: 3}:                 false,
		{N: 0, Site: -1}:                false,
		{N: 1, Site: 0}:                 false,
		{N: 1, Site: 3}:                 false,
		{N: 1, Site: -1}:                false,
		{N: -1, Site: 0}:                false,
		{N: -1, Site: 1}:                false,
		{N: -1, Site: 2}:                false,
		{N: api.MaxCount, Site: 0}:      false,
		{N: api.MaxCount, Site: 3}:      false,
		{N: api.MaxCount + 1, Site: 0}:  false,
		{N: api.MaxCount + 1, Site: 1}:  false,
		{N: api.MaxCount + 1, Site: 2}:  false,
		{N: math.MaxInt, Site: 1}:       false,
		{N: math.MinInt, Site: 1}:       false,
		{N: 1, Site: math.MaxInt}:       false,
		{N: math.MinInt, Site: 1 << 32}: false,
	} {
		if got := stamp.Good(s); got != want {
			t.Errorf("Good(%v) = %t", s, got)
		}
	}
	for _, s := range append(all(), some()...) {
		if got := stamp.Good(s); got != mayBe(s) {
			t.Errorf("Good(%v) = %t", s, got)
		}
	}
}

func wantLess(t *testing.T, a, b api.Stamp, want bool) {
	t.Helper()
	if got := stamp.Less(a, b); got != want {
		t.Errorf("Less(%v, %v) = %t", a, b, got)
	}
}

func TestLess(t *testing.T) { // P5.1
	wantLess(t, api.Stamp{N: 5, Site: 1}, api.Stamp{N: 6, Site: 1}, true)
	wantLess(t, api.Stamp{N: 5, Site: 2}, api.Stamp{N: 6, Site: 1}, true) // the number goes ahead of the site
	wantLess(t, api.Stamp{N: 6, Site: 1}, api.Stamp{N: 5, Site: 2}, false)
	wantLess(t, api.Stamp{N: 5, Site: 1}, api.Stamp{N: 5, Site: 2}, true)
	wantLess(t, api.Stamp{N: 5, Site: 2}, api.Stamp{N: 5, Site: 1}, false)
	wantLess(t, api.Stamp{N: 5, Site: 2}, api.Stamp{N: 5, Site: 2}, false)
	wantLess(t, api.Stamp{}, api.Stamp{N: 1, Site: 1}, true)
	wantLess(t, api.Stamp{}, api.Stamp{}, false)
	for i, a := range may {
		for k, b := range may {
			wantLess(t, a, b, i < k)
		}
	}
}

func TestLessOfAny(t *testing.T) { // P5.1: of ones that may not be, too, and with no sum that leaves its type's range
	wantLess(t, api.Stamp{N: math.MinInt, Site: 9}, api.Stamp{N: math.MaxInt, Site: -9}, true)
	wantLess(t, api.Stamp{N: 7, Site: math.MinInt}, api.Stamp{N: 7, Site: math.MaxInt}, true)
	wantLess(t, api.Stamp{N: 7, Site: math.MaxInt}, api.Stamp{N: 7, Site: math.MinInt}, false)
	wantLess(t, api.Stamp{N: -1, Site: 3}, api.Stamp{}, true)
	wantLess(t, api.Stamp{}, api.Stamp{N: 0, Site: -1}, false)
	for _, a := range all() {
		for _, b := range all() {
			wantLess(t, a, b, cmp.Or(cmp.Compare(a.N, b.N), cmp.Compare(a.Site, b.Site)) < 0)
		}
	}
}

func wantLater(t *testing.T, want api.Stamp, l ...api.Stamp) {
	t.Helper()
	if got := stamp.Later(l...); got != want {
		t.Errorf("Later(%v) = %v, want %v", l, got, want)
	}
}

func TestLater(t *testing.T) { // P5.1
	wantLater(t, api.Stamp{})
	wantLater(t, api.Stamp{}, []api.Stamp{}...)
	wantLater(t, api.Stamp{}, api.Stamp{})
	for _, s := range some() {
		wantLater(t, s, s)
		wantLater(t, s, s, s)
		wantLater(t, s, s, api.Stamp{})
		wantLater(t, s, api.Stamp{}, s)
	}
	for i, a := range may {
		for k, b := range may {
			wantLater(t, may[max(i, k)], a, b)
		}
	}
}

func TestLaterOfBad(t *testing.T) { // P5.1
	wantLater(t, api.Stamp{}, bad()...)
	for _, b := range bad() {
		wantLater(t, api.Stamp{}, b)
		wantLater(t, api.Stamp{}, b, b, api.Stamp{})
		for _, s := range may {
			wantLater(t, s, b, s)
			wantLater(t, s, s, b)
			wantLater(t, s, b, api.Stamp{}, s, b)
		}
	}
}

func TestLaterInAnyOrder(t *testing.T) { // P5.1
	r := rand.New(rand.NewPCG(13, 14))
	for range 300 {
		l := some()
		r.Shuffle(len(l), func(i, k int) { l[i], l[k] = l[k], l[i] })
		l = l[:r.IntN(len(l))]
		var want api.Stamp
		for _, s := range l {
			want = slices.MaxFunc([]api.Stamp{want, s}, func(a, b api.Stamp) int { return codeOf(a) - codeOf(b) })
		}
		l = append(l, bad()...)
		r.Shuffle(len(l), func(i, k int) { l[i], l[k] = l[k], l[i] })
		wantLater(t, want, l...)
	}
}

func TestNext(t *testing.T) { // P5.2
	for _, c := range []struct {
		last api.Stamp
		now  int
		want int
	}{
		{api.Stamp{N: 5, Site: 1}, 3, 6},
		{api.Stamp{N: 5, Site: 1}, 4, 6},
		{api.Stamp{N: 5, Site: 1}, 5, 6},
		{api.Stamp{N: 5, Site: 1}, 6, 6},
		{api.Stamp{N: 5, Site: 1}, 7, 7},
		{api.Stamp{N: 5, Site: 1}, 9, 9},
		{api.Stamp{N: 5, Site: 2}, 9, 9},
		{api.Stamp{N: 5, Site: 2}, 0, 6},
		{api.Stamp{N: 5, Site: 2}, -7, 6},
		{api.Stamp{N: 5, Site: 2}, math.MinInt, 6},
		{api.Stamp{}, math.MinInt, 1},
		{api.Stamp{}, -4, 1},
		{api.Stamp{}, -1, 1},
		{api.Stamp{}, 0, 1},
		{api.Stamp{}, 1, 1},
		{api.Stamp{}, 2, 2},
		{api.Stamp{}, api.MaxTime - 1, api.MaxTime - 1},
		{api.Stamp{}, api.MaxTime, api.MaxTime},
		{api.Stamp{}, api.MaxTime + 1, api.MaxTime},
		{api.Stamp{}, math.MaxInt, api.MaxTime},
		{api.Stamp{N: api.MaxTime - 1, Site: 1}, math.MaxInt, api.MaxTime},
		{api.Stamp{N: api.MaxTime, Site: 1}, math.MaxInt, api.MaxTime + 1},
		{api.Stamp{N: api.MaxTime, Site: 1}, api.MaxTime + 7, api.MaxTime + 1},
		{api.Stamp{N: api.MaxTime + 5, Site: 2}, api.MaxTime + 9, api.MaxTime + 6},
		{api.Stamp{N: api.MaxCount - 2, Site: 2}, 0, api.MaxCount - 1},
		{api.Stamp{N: api.MaxCount - 1, Site: 1}, 0, api.MaxCount},
		{api.Stamp{N: api.MaxCount - 1, Site: 2}, math.MaxInt, api.MaxCount},
	} {
		for _, site := range []int{1, 2} {
			want := api.Stamp{N: c.want, Site: site}
			if got, e := stamp.Next(c.last, c.now, site); got != want || e != api.OK {
				t.Errorf("Next(%v, %d, %d) = %v, %d, want %v", c.last, c.now, site, got, int(e), want)
			}
		}
	}
}

func wantNoNext(t *testing.T, last api.Stamp, now, site int, want api.Errno) {
	t.Helper()
	if got, e := stamp.Next(last, now, site); got != (api.Stamp{}) || e != want {
		t.Errorf("Next(%v, %d, %d) = %v, %d, want none and %d", last, now, site, got, int(e), int(want))
	}
}

func TestNextErrors(t *testing.T) { // P5.2
	for _, now := range numbers {
		for _, site := range sites {
			for _, last := range bad() {
				wantNoNext(t, last, now, site, api.ErrArg) // also where the number behind it would be above MaxCount
			}
			if site == 1 || site == 2 {
				wantNoNext(t, api.Stamp{N: api.MaxCount, Site: 1}, now, site, api.ErrClock)
				wantNoNext(t, api.Stamp{N: api.MaxCount, Site: 2}, now, site, api.ErrClock)
				continue
			}
			for _, last := range may { // the last ones of them have both errors
				wantNoNext(t, last, now, site, api.ErrArg)
			}
		}
	}
}

func TestOn(t *testing.T) { // P5.5
	for _, last := range some() {
		if last.N == api.MaxCount {
			continue
		}
		for _, now := range append(slices.Clone(numbers), last.N-1, last.N, last.N+1, last.N+2, last.N+1000) {
			for _, site := range []int{1, 2} {
				got, e := stamp.Next(last, now, site)
				if e != api.OK || !stamp.Good(got) || got.Site != site || !stamp.Less(last, got) {
					t.Errorf("Next(%v, %d, %d) = %v, %d", last, now, site, got, int(e))
				}
				ahead := api.Stamp{N: min(now, api.MaxTime) - 1, Site: 2}
				if now > 1 && !stamp.Less(ahead, got) {
					t.Errorf("Next(%v, %d, %d) = %v, which is not later than %v", last, now, site, got, ahead)
				}
			}
		}
	}
}

func TestPut(t *testing.T) { // P5.3
	for s, want := range map[api.Stamp]string{
		{}:                         "\x00",
		{N: 1, Site: 1}:            "\x02",
		{N: 1, Site: 2}:            "\x03",
		{N: 6, Site: 2}:            "\x0d",
		{N: 31, Site: 2}:           "\x3f",
		{N: 32, Site: 1}:           "\x40\x40",
		{N: 8192, Site: 1}:         "\x80\x00\x40\x00",
		{N: 1 << 29, Site: 2}:      "\xc0\x00\x00\x00\x40\x00\x00\x01",
		{N: api.MaxCount, Site: 1}: "\xc0\x02\x00\x00\x00\x00\x00\x00",
		{N: api.MaxCount, Site: 2}: "\xc0\x02\x00\x00\x00\x00\x00\x01",
	} {
		for _, ahead := range []string{"", "x", "\x40", "two words"} {
			if got := stamp.Put([]byte(ahead), s); string(got) != ahead+want {
				t.Errorf("Put(%q, %v) = %x, want %x behind it", ahead, s, got, want)
			}
		}
	}
	if got := stamp.Put(nil, api.Stamp{}); string(got) != "\x00" {
		t.Errorf("Put(nil, the zero one) = %x", got)
	}
	for _, ahead := range []string{"", "x", "\x40", "two words"} {
		for _, s := range some() {
			if got := stamp.Put([]byte(ahead), s); string(got) != ahead+string(probe.Laid(codeOf(s))) {
				t.Errorf("Put(%q, %v) = %x", ahead, s, got)
			}
		}
		for _, s := range bad() {
			if got := stamp.Put([]byte(ahead), s); string(got) != ahead {
				t.Errorf("Put(%q, %v) = %x, want the bytes alone", ahead, s, got)
			}
		}
	}
}

func TestGet(t *testing.T) { // P5.3
	if s, n, e := stamp.Get([]byte{0x0d}); s != (api.Stamp{N: 6, Site: 2}) || n != 1 || e != api.OK {
		t.Errorf("Get(0d) = %v, %d, %d", s, n, int(e))
	}
	for _, behind := range []string{"", "\x00", "\x01", "\xff", "and more of them"} {
		for _, s := range some() {
			b := probe.Laid(codeOf(s))
			got, n, e := stamp.Get(append(slices.Clone(b), behind...))
			if got != s || n != len(b) || e != api.OK {
				t.Errorf("Get of %v and %q = %v, %d, %d", s, behind, got, n, int(e))
			}
		}
	}
}

func wantNoStamp(t *testing.T, b []byte, want api.Errno) {
	t.Helper()
	if s, n, e := stamp.Get(b); s != (api.Stamp{}) || n != 0 || e != want {
		t.Errorf("Get(%x) = %v, %d, %d, want none and %d", b, s, n, int(e), int(want))
	}
}

func TestGetErrors(t *testing.T) { // P5.3
	wantNoStamp(t, nil, api.ErrCut)
	wantNoStamp(t, []byte{}, api.ErrCut)
	for _, s := range some() { // the missing bytes stand behind the list's length
		b := probe.Laid(codeOf(s))
		for have := range len(b) {
			wantNoStamp(t, b[:have], api.ErrCut)
		}
	}
	for _, s := range []string{"\x40", "\x80\x00\x40", "\xc0\x02\x00\x00\x00\x00\x00", "\xff\xff\xff\xff\xff\xff\xff"} {
		wantNoStamp(t, []byte(s), api.ErrCut)
	}
	for _, s := range []string{"\x40\x00", "\x40\x01", "\x40\x0d", "\x80\x00\x00\x0d", "\x80\x00\x3f\xff", "\xc0\x00\x00\x00\x3f\xff\xff\xff"} {
		wantNoStamp(t, []byte(s), api.ErrForm)
	}
	for _, n := range []int{1, 2*api.MaxCount + 2, 2*api.MaxCount + 3, 2*api.MaxCount + 4, 4 * api.MaxCount, 1 << 60, 1 << 61, 1<<61 + 2, api.MaxNum - 1, api.MaxNum} { // numbers that are no stamp's code
		wantNoStamp(t, probe.Laid(n), api.ErrForm)
		wantNoStamp(t, append(probe.Laid(n), "\x0d\x0d"...), api.ErrForm)
	}
}

func TestText(t *testing.T) { // P5.4
	for s, want := range map[api.Stamp]string{
		{}:                         "-",
		{N: 1, Site: 1}:            "1a",
		{N: 1, Site: 2}:            "1b",
		{N: 6, Site: 2}:            "6b",
		{N: 10, Site: 1}:           "10a",
		{N: 1000, Site: 2}:         "1000b",
		{N: api.MaxCount, Site: 1}: "281474976710656a",
		{N: api.MaxCount, Site: 2}: "281474976710656b",
	} {
		if got := stamp.Text(s); got != want {
			t.Errorf("Text(%v) = %q, want %q", s, got, want)
		}
	}
	for _, s := range some()[1:] {
		if got, want := stamp.Text(s), strconv.FormatInt(int64(s.N), 10)+"-ab"[s.Site:s.Site+1]; got != want {
			t.Errorf("Text(%v) = %q, want %q", s, got, want)
		}
	}
	for _, s := range bad() {
		if got := stamp.Text(s); got != "" {
			t.Errorf("Text(%v) = %q, want nothing", s, got)
		}
	}
}

func TestRead(t *testing.T) { // P5.4
	for text, want := range map[string]api.Stamp{
		"-":                {},
		"1a":               {N: 1, Site: 1},
		"1b":               {N: 1, Site: 2},
		"6b":               {N: 6, Site: 2},
		"10a":              {N: 10, Site: 1},
		"1000b":            {N: 1000, Site: 2},
		"281474976710655b": {N: api.MaxCount - 1, Site: 2},
		"281474976710656a": {N: api.MaxCount, Site: 1},
		"281474976710656b": {N: api.MaxCount, Site: 2},
	} {
		if got, e := stamp.Read(text); got != want || e != api.OK {
			t.Errorf("Read(%q) = %v, %d, want %v", text, got, int(e), want)
		}
	}
}

func wantNoRead(t *testing.T, text string) {
	t.Helper()
	if s, e := stamp.Read(text); s != (api.Stamp{}) || e != api.ErrForm {
		t.Errorf("Read(%.40q) = %v, %d, want none and %d", text, s, int(e), int(api.ErrForm))
	}
}

func TestReadErrors(t *testing.T) { // P5.4
	for _, text := range []string{
		"", "a", "b", "ab", "c", // no digits
		"0", "1", "6", "10", "281474976710656", // no letter
		"0a", "0b", "00a", "00b", "-0a", // the number 0
		"01a", "06b", "006b", "010a", "0281474976710656a", // a nought ahead
		"281474976710657a", "281474976710657b", "281474976710660a", "999999999999999b", "1000000000000000a", "2814749767106560a",
		"9223372036854775807a", "9223372036854775808a", "-9223372036854775808a", "-9223372036854775809b", "18446744073709551617a", "18446744073709551622b", "340282366920938463463374607431768211462b",
		"+6b", "-6b", "-1a", "--", "---", "-a", "-b", "+a", "+", "6-", "6+b", "6-b", "6b-", "6b+", "-281474976710656a",
		" ", " 6b", "6 b", "6b ", "6b\n", "\n6b", "\t6b", "6\rb", "6b\x00", "\x006b", "6\x00b", "- ", " -",
		"6A", "6B", "6c", "6`", "6z", "6x", "6é", "6\xe1", "6а", "\xff", "6\xff", "a6", "b6", "a6b", "6ab", "6ba", "6aa", "6bb", "6a6", "6a6b",
		"6.0a", "6.b", ".6b", "6e1a", "0x6a", "0b1a", "0b", "0o6b", "1_0a", "1,0a", "1'0a", "６b", "٦b", "six b",
	} {
		wantNoRead(t, text)
	}
}

func TestReadLong(t *testing.T) { // P5.4
	for _, part := range []string{"0", "1", "9", "6b", "a", "b", "-", " ", "\x00", "281474976710656"} {
		long := strings.Repeat(part, 1<<17)
		for _, ends := range [][2]string{{"", ""}, {"", "6b"}, {"", "1a"}, {"", "b"}, {"6", ""}, {"6b", ""}, {"6", "b"}, {"-", ""}, {"-", "a"}} {
			wantNoRead(t, ends[0]+long+ends[1])
		}
	}
}

// wantRead asks that a text is read just if it is one that a pattern allows, with a number that may be.
func wantRead(t *testing.T, pattern *regexp.Regexp, text string) {
	t.Helper()
	parts := pattern.FindStringSubmatch(text)
	if text != "-" && parts == nil {
		wantNoRead(t, text)
		return
	}
	want := api.Stamp{}
	if parts != nil {
		n, err := strconv.ParseUint(parts[1], 10, 64)
		if err != nil || n > 1<<48 {
			wantNoRead(t, text)
			return
		}
		want = api.Stamp{N: int(n), Site: 1 + strings.Index("ab", parts[2])}
	}
	if got, e := stamp.Read(text); got != want || e != api.OK {
		t.Errorf("Read(%q) = %v, %d, want %v", text, got, int(e), want)
	}
}

func TestReadAny(t *testing.T) { // P5.4, P5.6
	pattern := regexp.MustCompile(`\A([1-9][0-9]*)([ab])\z`)
	signs := "0159ab-+ cA_\x00\x80"
	for _, a := range signs {
		for _, b := range signs {
			for _, c := range signs {
				for _, d := range signs {
					text := string([]rune{a, b, c, d})
					for i := range len(text) + 1 {
						wantRead(t, pattern, text[:i])
					}
				}
			}
		}
	}
	for _, s := range may { // a byte that is another one, one that is missing, one too many
		text := stamp.Text(s)
		for i := range text {
			wantRead(t, pattern, text[:i]+text[i+1:])
			for c := range 256 {
				wantRead(t, pattern, text[:i]+string([]byte{byte(c)})+text[i+1:])
				wantRead(t, pattern, text[:i]+string([]byte{byte(c)})+text[i:])
				wantRead(t, pattern, text+string([]byte{byte(c)}))
			}
		}
	}
}

func TestBack(t *testing.T) { // P5.6
	for _, s := range some() {
		for _, behind := range []string{"", "\x00", "\xc0", "whatever"} {
			b := stamp.Put(nil, s)
			if got, n, e := stamp.Get(append(slices.Clone(b), behind...)); got != s || n != len(b) || e != api.OK {
				t.Errorf("%v is put as %x, and got as %v, %d, %d", s, b, got, n, int(e))
			}
		}
		if got, e := stamp.Read(stamp.Text(s)); got != s || e != api.OK {
			t.Errorf("%v is told as %q, and read as %v, %d", s, stamp.Text(s), got, int(e))
		}
	}
}

func TestBackFromBytes(t *testing.T) { // P5.6
	check := func(b []byte) {
		s, n, e := stamp.Get(b)
		if e == api.OK && (!stamp.Good(s) || !bytes.Equal(stamp.Put(nil, s), b[:n])) {
			t.Errorf("%x is got as %v, %d, and put as %x", b, s, n, stamp.Put(nil, s))
		}
	}
	for i := range 1 << 16 {
		check([]byte{byte(i >> 8), byte(i)})
	}
	r := rand.New(rand.NewPCG(15, 16))
	for range 20000 {
		b := binary.BigEndian.AppendUint64(nil, r.Uint64()>>r.IntN(64))
		b[0] ^= byte(r.Uint32()) & 0xc0
		check(b)
	}
}

func TestOrder(t *testing.T) { // P5.6
	for _, a := range some() {
		for _, b := range some() {
			x, y := stamp.Put(nil, a), stamp.Put(nil, b)
			less := cmp.Or(cmp.Compare(len(x), len(y)), bytes.Compare(x, y)) < 0 // lesser numbers have fewer bytes, or lesser ones
			if less != stamp.Less(a, b) {
				t.Errorf("Less(%v, %v) is %t, but their codes are %x, %x", a, b, !less, x, y)
			}
		}
	}
}

func TestHandedInStays(t *testing.T) { // rules 4 and 8
	for _, s := range []string{"", "\x00", "\x01", "\x0d", "\x40\x40", "\x05\x40", "\x40\x3f", "\x40"} {
		b, room := probe.Roomy([]byte(s), 0x0d)
		before := slices.Clone(room)
		for _, x := range append(some(), bad()...) {
			stamp.Put(b, x)
		}
		stamp.Get(b)
		if !bytes.Equal(room, before) {
			t.Errorf("the memory of %x was changed", s)
		}
	}
	wantNoStamp(t, []byte{0x40, 0x40}[:1], api.ErrCut)
	wantNoStamp(t, []byte{0x0d}[:0], api.ErrCut)
	for i := range may { // what stands behind the length is later, and is not read
		l := append(slices.Clone(may), bad()...)
		before := slices.Clone(l)
		slices.Reverse(l[:i+1])
		slices.Reverse(before[:i+1])
		wantLater(t, may[i], l[:i+1]...)
		if !slices.Equal(l, before) {
			t.Errorf("the memory of %d stamps was changed", i+1)
		}
	}
}

func TestHandedOutIsNew(t *testing.T) { // rule 4
	for _, s := range []string{"", "x", "some bytes"} {
		for _, x := range append(slices.Clone(may), bad()...) {
			b, room := probe.Roomy([]byte(s), 0x0d)
			if !probe.Apart(room, stamp.Put(b, x), stamp.Put(b, x), stamp.Put(room, x), stamp.Put(room, x)) {
				t.Errorf("lists handed out or in share memory, with %q and %v", s, x)
			}
		}
	}
}
