package crc_test

import (
	"bytes"
	"hash/crc32"
	"math"
	"math/bits"
	"math/rand/v2"
	"slices"
	"testing"

	"gemel/crc"
	"gemel/probe"
)

// told tells a sum in another way than the program does: the library's one takes the lowest bits first, and is else the same.
func told(b []byte) uint32 {
	turned := make([]byte, len(b))
	for i, c := range b {
		turned[i] = bits.Reverse8(c)
	}
	return bits.Reverse32(crc32.ChecksumIEEE(turned))
}

// dice tells bytes by chance, the same ones for the same length.
func dice(n int) []byte {
	r := rand.New(rand.NewPCG(5, uint64(n)))
	b := make([]byte, n)
	for i := range b {
		b[i] = byte(r.Uint32())
	}
	return b
}

func TestSum(t *testing.T) { // P2.1
	for s, want := range map[string]uint32{"": 0, "123456789": 0xFC891918, "\x00": 0xB1F7404B, "\xff": 0x000000FF, "\xff\xff\xff\xff": 0xFFFFFFFF} {
		if got := crc.Sum([]byte(s)); got != want {
			t.Errorf("Sum(%x) = %08x, want %08x", s, got, want)
		}
	}
	if got := crc.Sum(nil); got != 0 {
		t.Errorf("Sum(nil) = %08x, want 0", got)
	}
	for i := range 256 {
		b := []byte{byte(i)}
		if got := crc.Sum(b); got != told(b) {
			t.Errorf("Sum(%x) = %08x, want %08x", b, got, told(b))
		}
	}
	for _, n := range []int{2, 3, 4, 5, 7, 8, 9, 31, 32, 33, 255, 256, 1000, 65536, 100001} {
		if got := crc.Sum(dice(n)); got != told(dice(n)) {
			t.Errorf("Sum of %d bytes = %08x, want %08x", n, got, told(dice(n)))
		}
	}
	if all := []byte("123456789 and what stands behind it"); crc.Sum(all[:9]) != 0xFC891918 {
		t.Error("what stands behind the length was read")
	}
}

func TestMore(t *testing.T) { // P2.1
	if got := crc.More(0, []byte("123456789")); got != 0xFC891918 {
		t.Errorf("More of nothing's sum = %08x", got)
	}
	for _, sum := range []uint32{0, 1, 0xFC891918, 0x80000000, 0xFFFFFFFF, 0x04C11DB7} {
		if got := crc.More(sum, nil); got != sum {
			t.Errorf("More(%08x, nothing) = %08x", sum, got)
		}
	}
	// Each number is the sum of some four bytes: More tells their sum, with others behind them.
	for _, four := range []string{"\x00\x00\x00\x00", "\xff\xff\xff\xff", "1234", "\x80\x00\x00\x01"} {
		want := told([]byte(four + "behind"))
		if got := crc.More(told([]byte(four)), []byte("behind")); got != want {
			t.Errorf("More behind %x = %08x, want %08x", four, got, want)
		}
	}
}

func TestCutAnywhere(t *testing.T) { // P2.5
	for _, b := range [][]byte{nil, []byte("1"), []byte("123456789"), dice(300)} {
		whole := crc.Sum(b)
		for i := range len(b) + 1 {
			if got := crc.More(crc.Sum(b[:i]), b[i:]); got != whole {
				t.Errorf("%d bytes cut at %d: %08x, want %08x", len(b), i, got, whole)
			}
			for j := i; j <= len(b) && len(b) < 20; j++ {
				if got := crc.More(crc.More(crc.Sum(b[:i]), b[i:j]), b[j:]); got != whole {
					t.Errorf("%d bytes cut at %d and %d: %08x, want %08x", len(b), i, j, got, whole)
				}
			}
		}
	}
	sum := uint32(0)
	for _, c := range dice(500) {
		sum = crc.More(sum, []byte{c})
	}
	if sum != told(dice(500)) {
		t.Errorf("byte by byte: %08x", sum)
	}
}

func TestFix(t *testing.T) { // P2.2
	for s, want := range map[string]string{"": "\x00\x00\x00\x00", "123456789": "123456789\xfc\x89\x19\x18", "\x00": "\x00\xb1\xf7\x40\x4b"} {
		if got := crc.Fix([]byte(s)); string(got) != want {
			t.Errorf("Fix(%x) = %x, want %x", s, got, want)
		}
	}
	for _, n := range []int{1, 2, 3, 4, 5, 100, 65536} {
		b, sum := dice(n), told(dice(n))
		want := append(slices.Clone(b), byte(sum>>24), byte(sum>>16), byte(sum>>8), byte(sum))
		if got := crc.Fix(b); !bytes.Equal(got, want) || !crc.Right(got) || !crc.Right(want) {
			t.Errorf("Fix of %d bytes = %d bytes", n, len(got))
		}
	}
}

func TestRight(t *testing.T) { // P2.2
	for _, s := range []string{"\x00\x00\x00\x00", "123456789\xfc\x89\x19\x18", "\x00\xb1\xf7\x40\x4b"} {
		if !crc.Right([]byte(s)) {
			t.Errorf("Right(%x) is false", s)
		}
	}
	for _, s := range []string{"", "\x00", "\x00\x00", "\x00\x00\x00", "\xff", "\xff\xff\xff", "\x01\x02\x03", // fewer than four
		"\x00\x00\x00\x01", "\xff\xff\xff\xff", "\x01\x00\x00\x00", // four that are not the sum of nothing
		"123456789\x18\x19\x89\xfc",     // the lowest first
		"123456789\x03\x76\xe6\xe7",     // not turned
		"\xfc\x89\x19\x18123456789",     // ahead of what it sums
		"123456789\xfc\x89\x19",         // one too few
		"123456789\xfc\x89\x19\x18\x00", // one too many
		"123456789\xcb\xf4\x39\x26",     // the lowest bits first
		"123456780\xfc\x89\x19\x18", "\x00\x00\x00\x00\x00"} {
		if crc.Right([]byte(s)) {
			t.Errorf("Right(%x) is true", s)
		}
	}
	if crc.Right(nil) {
		t.Error("Right(nil) is true")
	}
	fixed := crc.Fix([]byte("abc"))
	for i := range len(fixed) { // the rest of them stands behind the length
		if crc.Right(fixed[:i]) {
			t.Errorf("the first %d of %d bytes are right", i, len(fixed))
		}
	}
}

func TestJoin(t *testing.T) { // P2.3
	for _, a := range [][]byte{nil, []byte("1234"), dice(77), dice(1000)} {
		for _, n := range []int{0, 1, 2, 3, 4, 5, 7, 8, 9, 63, 64, 65, 127, 128, 255, 256, 257, 1023, 4095, 32767, 32768, 32769, 65534, 65535, 65536} {
			b := dice(n)
			want := told(append(slices.Clone(a), b...))
			if got := crc.Join(told(a), told(b), n); got != want {
				t.Errorf("Join of %d and %d bytes = %08x, want %08x", len(a), n, got, want)
			}
		}
		for n := range 80 {
			b := bytes.Repeat([]byte{byte(n)}, n)
			want := told(append(slices.Clone(a), b...))
			if got := crc.Join(crc.Sum(a), crc.Sum(b), n); got != want {
				t.Errorf("Join of %d and %d bytes = %08x, want %08x", len(a), n, got, want)
			}
		}
	}
}

func TestJoinBeyond(t *testing.T) { // P2.3
	for _, n := range []int{-1, -2, -65536, math.MinInt, 65537, 65538, 131072, 1 << 32, 1<<32 + 1, math.MaxInt} {
		for _, sums := range [][2]uint32{{0, 0}, {1, 2}, {0xFFFFFFFF, 0xFFFFFFFF}, {0xFC891918, 0}} {
			if got := crc.Join(sums[0], sums[1], n); got != 0 {
				t.Errorf("Join(%08x, %08x, %d) = %08x, want 0", sums[0], sums[1], n, got)
			}
		}
	}
	if got := crc.Join(told(dice(9)), told(dice(65537)), 65537); got != 0 {
		t.Errorf("Join of 9 and 65537 bytes = %08x, want 0", got)
	}
}

func TestBurst(t *testing.T) { // P2.4
	r := rand.New(rand.NewPCG(7, 8))
	for _, n := range []int{0, 1, 2, 3, 4, 5, 9, 60} {
		fixed := crc.Fix(dice(n))
		for at := range fixed {
			for x := 1; x < 256; x++ { // a byte alone
				wantWrong(t, fixed, at, []byte{byte(x)})
			}
			for _, x := range []string{"\x01\x00\x00\x01", "\x80\x00\x00\x80", "\xff\xff\xff\xff", "\x04\xc1\x1d\xb7", "\x82\x60\x8e\xdb", "\x01\x04\xc1\x1d", "\x00\x01\x00\x00"} {
				wantWrong(t, fixed, at, []byte(x))
			}
			for range 300 {
				x := r.Uint32() | 1
				wantWrong(t, fixed, at, []byte{byte(x >> 24), byte(x >> 16), byte(x >> 8), byte(x)})
			}
		}
	}
}

// wantWrong asks that what was fixed is right no more when the bytes from a place on are turned; such as reach beyond its end are passed over.
func wantWrong(t *testing.T, fixed []byte, at int, turns []byte) {
	t.Helper()
	if at+len(turns) > len(fixed) {
		return
	}
	b := slices.Clone(fixed)
	for i, x := range turns {
		b[at+i] ^= x
	}
	if crc.Right(b) {
		t.Errorf("%d bytes, turned at %d by %x, are right", len(fixed), at, turns)
	}
}

func TestHandedInStays(t *testing.T) { // rules 4 and 8
	for _, s := range []string{"", "a", "abc", "abcd", "123456789\xfc\x89\x19\x18"} {
		b, all := probe.Roomy([]byte(s), 0xA5)
		before := slices.Clone(all)
		crc.Sum(b)
		crc.More(5, b)
		crc.Fix(b)
		crc.Right(b)
		if !bytes.Equal(all, before) {
			t.Errorf("the memory of %x was changed", s)
		}
	}
}

func TestHandedOutIsNew(t *testing.T) { // rule 4
	for _, s := range []string{"", "a", "123456789"} {
		b, all := probe.Roomy([]byte(s), 0xA5)
		if !probe.Apart(all, crc.Fix(b), crc.Fix(b)) {
			t.Errorf("Fix(%x): what was handed out shares memory", s)
		}
	}
}
