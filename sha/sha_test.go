package sha_test

import (
	"bytes"
	"crypto/sha256"
	"encoding/hex"
	"math/rand/v2"
	"slices"
	"strings"
	"testing"

	"gemel/api"
	"gemel/sha"
)

// known are texts of digests that are known.
var known = map[string]string{
	"":    "e3b0c44298fc1c149afbf4c8996fb92427ae41e4649b934ca495991b7852b855",
	"abc": "ba7816bf8f01cfea414140de5dae2223b00361a396177a9cb410ff61f20015ad",
	"abcdbcdecdefdefgefghfghighijhijkijkljklmklmnlmnomnopnopq": "248d6a61d20638b8e5c026930c3e6039a33ce45964ff2167f6ecedd419db06c1",
	strings.Repeat("a", 1000000):                               "cdc76e5c9914fb9281a1c7e284d73e67f1809a48a497200e046d39ccc7112cd0",
}

// edges are counts of bytes around which that of the blocks changes.
var edges = []int{0, 1, 54, 55, 56, 57, 62, 63, 64, 65, 118, 119, 120, 121, 127, 128, 129, 183, 184, 191, 192, 193, 1000}

// told tells a digest in another way than the program does.
func told(b []byte) api.Digest {
	return sha256.Sum256(b)
}

// dice tells bytes by chance, the same ones for the same length.
func dice(n int) []byte {
	r := rand.New(rand.NewPCG(12, uint64(n)))
	b := make([]byte, n)
	for i := range b {
		b[i] = byte(r.Uint32())
	}
	return b
}

// fed tells a state to which parts came.
func fed(t *testing.T, parts ...[]byte) *sha.State {
	t.Helper()
	s := sha.New()
	for _, p := range parts {
		if e := s.Add(p); e != api.OK {
			t.Fatalf("Add of %d bytes = %d", len(p), int(e))
		}
	}
	return s
}

// want asks what a state tells of the bytes that came.
func want(t *testing.T, s *sha.State, all []byte) {
	t.Helper()
	if d := s.Sum(); d != told(all) {
		t.Errorf("Sum behind %d bytes = %x, want %x", len(all), d, told(all))
	}
	if n := s.Len(); n != len(all) {
		t.Errorf("Len behind %d bytes = %d", len(all), n)
	}
}

func TestKnown(t *testing.T) { // P4.1, P4.2
	for s, text := range known {
		if d := sha.Sum([]byte(s)); hex.EncodeToString(d[:]) != text {
			t.Errorf("Sum of %d bytes = %x, want %s", len(s), d, text)
		}
		if d := fed(t, []byte(s)).Sum(); hex.EncodeToString(d[:]) != text {
			t.Errorf("a state's Sum of %d bytes = %x, want %s", len(s), d, text)
		}
	}
}

func TestNew(t *testing.T) { // P4.1
	want(t, sha.New(), nil)
	one, two := sha.New(), sha.New()
	one.Add([]byte("abc"))
	want(t, two, nil)
	want(t, one, []byte("abc"))
}

func TestState(t *testing.T) { // P4.1
	for _, n := range append(slices.Clone(edges), 65536, 100001) {
		want(t, fed(t, dice(n)), dice(n))
	}
	for n := range 200 {
		b := bytes.Repeat([]byte{byte(n)}, n)
		want(t, fed(t, b), b)
	}
	s := fed(t, nil, []byte{})
	want(t, s, nil)
	all := []byte("what stands behind the length is not read")
	want(t, fed(t, all[:4]), []byte("what"))
}

// What is asked in between changes nothing, and is the same when it is asked again.
func TestStateStays(t *testing.T) { // P4.1
	for _, n := range edges {
		s, b := sha.New(), dice(n)
		for i := range b {
			want(t, s, b[:i])
			want(t, s, b[:i])
			if e := s.Add(b[i : i+1]); e != api.OK {
				t.Fatalf("Add = %d", int(e))
			}
		}
		want(t, s, b)
		want(t, s, b)
	}
}

func TestCutAnywhere(t *testing.T) { // P4.4
	for _, n := range append(slices.Clone(edges), 256, 300) {
		b := dice(n)
		for i := range n + 1 {
			s := fed(t, b[:i])
			want(t, s, b[:i])
			s.Add(b[i:])
			want(t, s, b)
			if d := sha.Sum(b[:i], b[i:]); d != told(b) {
				t.Errorf("%d bytes cut at %d: %x, want %x", n, i, d, told(b))
			}
		}
	}
	r := rand.New(rand.NewPCG(13, 14))
	for range 300 {
		b := dice(r.IntN(700))
		s, at := sha.New(), 0
		for at < len(b) {
			end := min(len(b), at+r.IntN(150))
			s.Add(b[at:end])
			at = end
			want(t, s, b[:at])
		}
	}
}

func TestSumOfParts(t *testing.T) { // P4.2
	for _, parts := range [][][]byte{
		nil,
		{},
		{nil},
		{{}, nil, {}},
		{[]byte("abc")},
		{[]byte("a"), []byte("b"), []byte("c")},
		{[]byte("c"), []byte("b"), []byte("a")},
		{nil, []byte("ab"), {}, []byte("c"), nil},
		{{0}, {0}, {}, {0, 0}},
		{dice(63), {}, dice(1), dice(64), dice(65), nil, dice(1000)},
	} {
		all := slices.Concat(parts...)
		if d := sha.Sum(parts...); d != told(all) {
			t.Errorf("Sum of %d parts, %d bytes in all = %x, want %x", len(parts), len(all), d, told(all))
		}
	}
	if d := sha.Sum(); sha.Text(d) != known[""] {
		t.Errorf("Sum of no parts = %x", d)
	}
	for _, n := range edges {
		if d := sha.Sum(dice(n)); d != told(dice(n)) {
			t.Errorf("Sum of %d bytes = %x, want %x", n, d, told(dice(n)))
		}
		var parts [][]byte
		for _, c := range dice(n) {
			parts = append(parts, []byte{c}, nil)
		}
		if d := sha.Sum(parts...); d != told(dice(n)) {
			t.Errorf("Sum of %d bytes, each a part = %x, want %x", n, d, told(dice(n)))
		}
	}
	parts := [][]byte{[]byte("abc"), []byte("what stands behind the length")}
	if d := sha.Sum(parts[:1]...); sha.Text(d) != known["abc"] {
		t.Errorf("Sum of one of two parts = %x", d)
	}
}

// digests are some of which the texts are asked.
func digests() []api.Digest {
	out := []api.Digest{{}, {0: 0x01}, {0: 0x10}, {31: 0x01}, {31: 0xf0}, told(nil), told([]byte("abc"))}
	var all, rising api.Digest
	for i := range all {
		all[i], rising[i] = 0xff, byte(i*8+i/4)
	}
	out = append(out, all, rising)
	for c := range 256 {
		out = append(out, api.Digest{0: byte(c), 17: byte(c), 31: ^byte(c)})
	}
	return out
}

func TestText(t *testing.T) { // P4.3
	for _, d := range digests() {
		if got := sha.Text(d); got != hex.EncodeToString(d[:]) {
			t.Errorf("Text(%x) = %q", d, got)
		}
	}
	if got := sha.Text(api.Digest{0: 0x0a, 1: 0xf0}); got != "0af0"+strings.Repeat("0", 60) {
		t.Errorf("Text = %q", got)
	}
}

func TestRead(t *testing.T) { // P4.3
	for _, d := range digests() {
		if got, e := sha.Read(hex.EncodeToString(d[:])); got != d || e != api.OK {
			t.Errorf("Read of %x's text = %x, %d", d, got, int(e))
		}
	}
	if d, e := sha.Read("0af0" + strings.Repeat("0", 60)); d != (api.Digest{0: 0x0a, 1: 0xf0}) || e != api.OK {
		t.Errorf("Read = %x, %d", d, int(e))
	}
}

func wantNoDigest(t *testing.T, s string) {
	t.Helper()
	if d, e := sha.Read(s); d != (api.Digest{}) || e != api.ErrHex {
		t.Errorf("Read(%q) = %x, %d, want noughts and ErrHex", s, d, int(e))
	}
}

func TestReadErrors(t *testing.T) { // P4.3
	right := known["abc"]
	for _, n := range []int{0, 1, 2, 32, 62, 63, 65, 66, 128} {
		wantNoDigest(t, (right + right + right)[:n])
	}
	wantNoDigest(t, strings.ToUpper(right))
	wantNoDigest(t, "0x"+right)
	wantNoDigest(t, " "+right)
	wantNoDigest(t, right+"\n")
	wantNoDigest(t, "0x"+right[2:])
	wantNoDigest(t, strings.Repeat("é", 32)) // 64 bytes
	wantNoDigest(t, strings.Repeat("é", 64)) // 64 runes
	for c := range 256 {
		if strings.IndexByte("0123456789abcdef", byte(c)) >= 0 {
			continue
		}
		for _, at := range []int{0, 1, 31, 32, 62, 63} {
			wantNoDigest(t, right[:at]+string([]byte{byte(c)})+right[at+1:])
		}
	}
}

func TestTextsAreReadBack(t *testing.T) { // P4.5
	for _, d := range digests() {
		if got, e := sha.Read(sha.Text(d)); got != d || e != api.OK {
			t.Errorf("the text of %x is read as %x, %d", d, got, int(e))
		}
	}
	r := rand.New(rand.NewPCG(15, 16))
	for range 3000 { // a text that is read is the one that its digest has
		b := make([]byte, 63+r.IntN(3))
		for i := range b {
			b[i] = "0123456789abcdef"[r.IntN(16)]
		}
		if r.IntN(2) == 0 {
			b[r.IntN(len(b))] = byte(r.Uint32())
		}
		d, e := sha.Read(string(b))
		switch {
		case e == api.OK && sha.Text(d) != string(b):
			t.Errorf("%q is read as %x", b, d)
		case e != api.OK && (e != api.ErrHex || d != (api.Digest{})):
			t.Errorf("Read(%q) = %x, %d", b, d, int(e))
		}
	}
}

func TestStateThatNoCallMade(t *testing.T) { // rule 1
	for _, s := range []*sha.State{nil, {}, new(sha.State)} {
		for range 2 {
			for _, b := range [][]byte{nil, {}, []byte("abc"), dice(64), dice(200)} {
				if e := s.Add(b); e != api.ErrNil {
					t.Errorf("Add = %d, want ErrNil", int(e))
				}
			}
			if d := s.Sum(); d != (api.Digest{}) {
				t.Errorf("Sum = %x, want noughts", d)
			}
			if n := s.Len(); n != 0 {
				t.Errorf("Len = %d, want 0", n)
			}
		}
		if s != nil && *s != (sha.State{}) {
			t.Error("the state was changed")
		}
	}
}

func TestHandedInStays(t *testing.T) { // rules 4 and 8
	for _, n := range []int{0, 3, 55, 64, 100, 128} {
		all := append(dice(n), bytes.Repeat([]byte{0xa5}, 64)...)
		before := slices.Clone(all)
		parts := [][]byte{all[:n], all[:n/2], nil}
		s := fed(t, all[:n])
		s.Sum()
		sha.Sum(parts[:2]...)
		if !bytes.Equal(all, before) {
			t.Errorf("the memory of %d bytes was changed", n)
		}
		if len(parts[0]) != n || len(parts[1]) != n/2 || parts[2] != nil {
			t.Error("the list of the parts was changed")
		}
		for i := range all { // nor is it kept
			all[i] ^= 0xff
		}
		want(t, s, before[:n])
	}
}

func TestHandedOutIsNew(t *testing.T) { // rule 4
	s := fed(t, []byte("abc"))
	d := s.Sum()
	d[0] ^= 0xff
	want(t, s, []byte("abc"))
	if other := sha.New(); other == s {
		t.Error("New tells the same state again")
	}
}
