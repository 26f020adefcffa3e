package probe_test

import (
	"bytes"
	"testing"

	"gemel/probe"
)

func TestLaid(t *testing.T) {
	for n, want := range map[int]string{0: "\x00", 63: "\x3f", 64: "\x40\x40", 16383: "\x7f\xff", 16384: "\x80\x00\x40\x00", 1<<30 - 1: "\xbf\xff\xff\xff", 1 << 30: "\xc0\x00\x00\x00\x40\x00\x00\x00", 1<<62 - 1: "\xff\xff\xff\xff\xff\xff\xff\xff", 0x0102030405060708: "\xc1\x02\x03\x04\x05\x06\x07\x08"} {
		if got := probe.Laid(n); string(got) != want {
			t.Errorf("Laid(%d) = %x, want %x", n, got, want)
		}
	}
}

func TestRoomy(t *testing.T) {
	b := []byte("some")
	part, whole := probe.Roomy(b, 7)
	if string(part) != "some" || cap(part) <= len(part) || !bytes.HasPrefix(whole, []byte("some\x07\x07")) || probe.Apart(part, whole) || !probe.Apart(b, whole) {
		t.Errorf("Roomy = %q of %q", part, whole)
	}
	words, all := probe.Roomy([]string{"some"}, "more")
	if len(words) != 1 || words[0] != "some" || len(all) <= 2 || all[0] != "some" || all[1] != "more" || probe.Apart(words, all) {
		t.Errorf("Roomy = %q of %q", words, all)
	}
}

func TestApart(t *testing.T) {
	whole := []byte("some bytes")
	before := string(whole)
	for _, lists := range [][][]byte{{whole, whole}, {whole[:4], whole[5:]}, {[]byte("x"), whole[:0], nil, whole[9:]}} {
		if probe.Apart(lists...) {
			t.Errorf("%q are told to be apart", lists)
		}
	}
	for _, lists := range [][][]byte{nil, {whole}, {nil, nil}, {whole, []byte("some bytes")}, {whole[:4:4], whole[4:]}} {
		if !probe.Apart(lists...) {
			t.Errorf("%q are told to share memory", lists)
		}
	}
	pairs := [][2]int{{1, 2}, {3, 4}, {5, 6}}
	if probe.Apart(pairs[:1], pairs[2:], pairs[:0]) || !probe.Apart(pairs[:1:1], pairs[1:2:2], pairs[2:], [][2]int{{1, 2}}) {
		t.Error("Apart of pairs")
	}
	if string(whole) != before {
		t.Errorf("the memory has become %q", whole)
	}
}
