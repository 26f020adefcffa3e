package net_test

import (
	"math"
	"math/rand/v2"
	"slices"
	"strings"
	"testing"

	"gemel/api"
	"gemel/net"
	"gemel/probe"
)

// maxBytes is how many bytes a packet may have.
const maxBytes = api.MaxFrame + 16

// outside tells numbers that are no places of so many things.
func outside(count int) []int {
	return []int{count, count + 1, -1, -2, api.MaxQueue, 1 << 32, 1<<32 + 1, math.MinInt, math.MaxInt, math.MinInt + 1}
}

// packet tells a packet.
func packet(from int, b string) api.Packet { return api.Packet{From: from, Bytes: b} }

// plain is what a net is to be, told in another way than the program tells it.
type plain struct {
	packets []api.Packet
	counts  [4]int // sent, taken, dropped, doubled
}

// want wants that a call answers that.
func want(t *testing.T, what string, got, e api.Errno) {
	t.Helper()
	if got != e {
		t.Fatalf("%s: %d, want %d", what, int(got), int(e))
	}
}

// wantNet wants that a net is just that.
func wantNet(t *testing.T, n *net.Net, p plain) {
	t.Helper()
	if n.Len() != len(p.packets) || n.Counts() != p.counts {
		t.Fatalf("Len %d, Counts %v, want %d, %v", n.Len(), n.Counts(), len(p.packets), p.counts)
	}
	for i, x := range p.packets {
		if got, e := n.Look(i); got != x || e != api.OK {
			t.Fatalf("Look(%d) = %.40v, %d, want %.40v", i, got, int(e), x)
		}
	}
	for _, i := range outside(len(p.packets)) {
		if got, e := n.Look(i); got != (api.Packet{}) || e != api.ErrPacket {
			t.Fatalf("Look(%d) of %d = %.40v, %d", i, len(p.packets), got, int(e))
		}
	}
	if p.counts[0]+p.counts[3] != p.counts[1]+p.counts[2]+n.Len() { // P21.4
		t.Fatalf("Counts %v, Len %d", p.counts, n.Len())
	}
}

// filled tells a net for so many packets in which these were sent.
func filled(t *testing.T, most int, packets ...api.Packet) (*net.Net, plain) {
	t.Helper()
	n := net.New(most)
	if n == nil {
		t.Fatalf("New(%d) tells no net", most)
	}
	var p plain
	for _, x := range packets {
		want(t, "Send", n.Send(x.From, []byte(x.Bytes)), api.OK)
		p.packets = append(p.packets, x)
		p.counts[0]++
		wantNet(t, n, p)
	}
	return n, p
}

// some tells packets of both sites, no two of them alike.
func some(count int) []api.Packet {
	var out []api.Packet
	for i := range count {
		out = append(out, packet(1+i*i%3%2, strings.Repeat("\xb5x\x00", i%4)+string(rune('0'+i))))
	}
	return out
}

func TestNew(t *testing.T) { // P21.1 and P21.6
	for most, may := range map[int]bool{math.MinInt: false, -64: false, -1: false, 0: false, 1: true, 2: true, 63: true, api.MaxQueue: true, api.MaxQueue + 1: false, 1 << 32: false, 1<<32 + 1: false, math.MaxInt: false} {
		n := net.New(most)
		if (n != nil) != may {
			t.Errorf("New(%d): a net %t", most, n != nil)
		}
		if !may {
			continue
		}
		n, p := filled(t, most)
		wantNet(t, n, p)
		n, p = filled(t, most, some(most)...)
		for range 3 {
			want(t, "Send to a full net", n.Send(1, []byte("more")), api.ErrQueue)
			want(t, "Send of nothing to a full net", n.Send(2, nil), api.ErrQueue)
			want(t, "Twice in a full net", n.Twice(most-1), api.ErrQueue)
			wantNet(t, n, p)
		}
	}
}

func TestExample(t *testing.T) { // the chapter's
	n, p := filled(t, 2, packet(1, "a"))
	want(t, "Twice", n.Twice(0), api.OK)
	p.packets, p.counts[3] = append(p.packets, packet(1, "a")), 1
	wantNet(t, n, p)
	want(t, "Send", n.Send(2, []byte("b")), api.ErrQueue)
	wantNet(t, n, p)
	if got, e := n.Take(1); got != packet(1, "a") || e != api.OK {
		t.Errorf("Take(1) = %v, %d", got, int(e))
	}
	if n.Counts() != [4]int{1, 1, 0, 1} || n.Len() != 1 {
		t.Errorf("Counts %v, Len %d", n.Counts(), n.Len())
	}
}

func TestSend(t *testing.T) { // P21.1: bytes of all kinds, none and the most
	var packets []api.Packet
	for _, b := range []string{"", "\x00", "a", "\xff\xfe", "\xc3\xa9", "\xed\xa0\x80", strings.Repeat("\xb5", 300), strings.Repeat("x", api.MaxFrame), strings.Repeat("y", maxBytes-1), strings.Repeat("z", maxBytes)} {
		packets = append(packets, packet(1, b), packet(2, b))
	}
	filled(t, 20, packets...)
}

func TestSendErrorsInOrder(t *testing.T) { // P21.1
	long, longer := make([]byte, maxBytes+1), make([]byte, 3*maxBytes)
	for _, there := range []int{0, 1, 2} { // of two: the queue's error comes last
		n, p := filled(t, 2, some(there)...)
		for _, b := range [][]byte{nil, {}, {1}, long[:maxBytes], long, longer} {
			for _, from := range []int{0, 3, -1, -2, 1<<32 + 1, math.MinInt, math.MaxInt} {
				want(t, "Send from nobody", n.Send(from, b), api.ErrArg)
			}
		}
		for _, from := range []int{1, 2} {
			want(t, "Send of too much", n.Send(from, long), api.ErrLong)
			want(t, "Send of too much", n.Send(from, longer), api.ErrLong)
		}
		wantNet(t, n, p)
	}
}

func TestTakeAndDrop(t *testing.T) { // P21.2: at each place
	for count := 1; count < 7; count++ {
		for i := range count {
			n, p := filled(t, 9, some(count)...)
			gone := p.packets[i]
			p.packets, p.counts[1] = slices.Delete(p.packets, i, i+1), 1
			if got, e := n.Take(i); got != gone || e != api.OK {
				t.Fatalf("Take(%d) of %d = %v, %d, want %v", i, count, got, int(e), gone)
			}
			wantNet(t, n, p)
			n, p = filled(t, 9, some(count)...)
			p.packets, p.counts[2] = slices.Delete(p.packets, i, i+1), 1
			want(t, "Drop", n.Drop(i), api.OK)
			wantNet(t, n, p)
			for _, x := range some(9 - len(p.packets)) { // there is as much room as there was
				want(t, "Send", n.Send(x.From, []byte(x.Bytes)), api.OK)
			}
			want(t, "Send", n.Send(1, nil), api.ErrQueue)
		}
	}
}

func TestNoPacket(t *testing.T) { // P21.2: and nothing has changed
	for count := range 5 {
		n, p := filled(t, 4, some(count)...) // a full one, too: ErrPacket is ahead of ErrQueue
		for _, i := range outside(count) {
			if got, e := n.Take(i); got != (api.Packet{}) || e != api.ErrPacket {
				t.Errorf("Take(%d) of %d = %v, %d", i, count, got, int(e))
			}
			want(t, "Drop", n.Drop(i), api.ErrPacket)
			want(t, "Twice", n.Twice(i), api.ErrPacket)
			for _, at := range []int{0, 1, -1, math.MinInt, math.MaxInt} { // and ahead of ErrArg
				want(t, "Turn", n.Turn(i, at, 1), api.ErrPacket)
			}
		}
		wantNet(t, n, p)
	}
}

func TestTwice(t *testing.T) { // P21.2
	for count := 1; count < 6; count++ {
		for i := range count {
			n, p := filled(t, count+2, some(count)...)
			for range 2 {
				want(t, "Twice", n.Twice(i), api.OK)
				p.packets = append(p.packets, p.packets[i])
				p.counts[3]++
				wantNet(t, n, p)
			}
			want(t, "Twice", n.Twice(i), api.ErrQueue)
			wantNet(t, n, p)
			want(t, "Twice", n.Twice(count+1), api.ErrQueue)
			want(t, "Twice", n.Twice(count+2), api.ErrPacket)
			wantNet(t, n, p)
		}
	}
}

func TestTurn(t *testing.T) { // P21.2: each byte, by bits of all kinds
	for _, bits := range []byte{0, 1, 2, 3, 0x10, 0x7f, 0x80, 0xff} {
		for _, b := range []string{"a", "ab", "\x00\xff\x80", "\xc3\xa9\xed\xa0", strings.Repeat("long", 80)} {
			for at := range len(b) {
				n, p := filled(t, 3, packet(1, b), packet(2, b), packet(1, "x"+b))
				turned := []byte(b)
				turned[at] ^= bits
				want(t, "Turn", n.Turn(1, at, bits), api.OK)
				p.packets[1].Bytes = string(turned)
				wantNet(t, n, p)
				want(t, "Turn", n.Turn(1, at, bits), api.OK) // and it is as it was
				p.packets[1].Bytes = b
				wantNet(t, n, p)
			}
		}
	}
}

func TestTurnNoPlace(t *testing.T) { // P21.2
	for _, b := range []string{"", "a", "abc"} {
		n, p := filled(t, 3, packet(2, "longer"), packet(1, b), packet(2, "longer"))
		for _, at := range outside(len(b)) {
			for _, bits := range []byte{0, 1, 0xff} {
				want(t, "Turn", n.Turn(1, at, bits), api.ErrArg)
			}
		}
		wantNet(t, n, p)
	}
}

func TestTurnOfOne(t *testing.T) { // P21.2: one that is like it stays as it is
	n, p := filled(t, 9, packet(1, "abc"))
	want(t, "Twice", n.Twice(0), api.OK)
	want(t, "Twice", n.Twice(1), api.OK)
	p.packets, p.counts[3] = []api.Packet{packet(1, "abc"), packet(1, "abC"), packet(1, "abc")}, 2
	want(t, "Turn", n.Turn(1, 2, 0x20), api.OK)
	wantNet(t, n, p)
	want(t, "Twice", n.Twice(1), api.OK)
	want(t, "Turn", n.Turn(1, 0, 0x20), api.OK)
	p.packets, p.counts[3] = []api.Packet{packet(1, "abc"), packet(1, "AbC"), packet(1, "abc"), packet(1, "abC")}, 3
	wantNet(t, n, p)
}

func TestNoNet(t *testing.T) { // P21.3: a Net that no call made, whatever it is asked
	var none *net.Net
	var zero net.Net
	for _, n := range []*net.Net{none, &zero, {}, net.New(0), net.New(api.MaxQueue + 1)} {
		for range 2 {
			for _, i := range []int{0, 1, -1, math.MinInt, math.MaxInt} {
				want(t, "Send", n.Send(i, []byte("a")), api.ErrNil)
				want(t, "Send", n.Send(i, make([]byte, maxBytes+1)), api.ErrNil)
				got, e := n.Look(i)
				took, e2 := n.Take(i)
				if got != (api.Packet{}) || e != api.ErrNil || took != (api.Packet{}) || e2 != api.ErrNil {
					t.Errorf("Look(%d) = %v, %d; Take = %v, %d", i, got, int(e), took, int(e2))
				}
				want(t, "Drop", n.Drop(i), api.ErrNil)
				want(t, "Twice", n.Twice(i), api.ErrNil)
				want(t, "Turn", n.Turn(i, i, 1), api.ErrNil)
			}
			if n.Len() != 0 || n.Counts() != [4]int{} {
				t.Errorf("Len %d, Counts %v", n.Len(), n.Counts())
			}
		}
	}
}

func TestOrder(t *testing.T) { // P21.5: without losses, however many are there in between
	for _, most := range []int{1, 2, 3, 7, api.MaxQueue} {
		all := slices.Repeat(some(40), 5)
		n, _ := filled(t, most)
		var got []api.Packet
		left := all
		for len(got) < len(all) {
			for len(left) > 0 && n.Send(left[0].From, []byte(left[0].Bytes)) == api.OK {
				left = left[1:]
			}
			if n.Len() != min(most, len(all)-len(got)) { // P21.6
				t.Fatalf("%d packets of %d", n.Len(), most)
			}
			for range min(1+len(got)%most, n.Len()) {
				p, e := n.Take(0)
				want(t, "Take", e, api.OK)
				got = append(got, p)
			}
		}
		if !slices.Equal(got, all) {
			t.Errorf("taken in another order: %v", got)
		}
	}
}

func TestHandedInStays(t *testing.T) { // rules 4 and 8
	n, p := filled(t, 4)
	for _, b := range []string{"", "some bytes", strings.Repeat("x", 5000)} {
		part, whole := probe.Roomy([]byte(b), 7)
		before := string(whole)
		want(t, "Send", n.Send(2, part), api.OK)
		p.packets, p.counts[0] = append(p.packets, packet(2, b)), p.counts[0]+1
		wantNet(t, n, p)
		for at := range len(b) {
			want(t, "Turn", n.Turn(len(p.packets)-1, at, 0xff), api.OK)
		}
		if string(whole) != before {
			t.Error("what was handed in has changed")
		}
		for at := range len(b) {
			want(t, "Turn", n.Turn(len(p.packets)-1, at, 0xff), api.OK)
		}
		clear(whole)
		wantNet(t, n, p)
	}
}

func TestHandedOutStays(t *testing.T) { // rule 4: what was told stays what it was
	n, _ := filled(t, 3, packet(1, "abc"), packet(2, "def"))
	first, _ := n.Look(0)
	want(t, "Turn", n.Turn(0, 1, 0xff), api.OK)
	counts := n.Counts()
	counts[0] = 99
	if first != packet(1, "abc") || n.Counts() != [4]int{2, 0, 0, 0} {
		t.Errorf("%v, Counts %v", first, n.Counts())
	}
	second, _ := n.Take(1)
	want(t, "Send", n.Send(1, []byte("xyz")), api.OK)
	want(t, "Turn", n.Turn(1, 0, 1), api.OK)
	if second != packet(2, "def") {
		t.Errorf("%v", second)
	}
}

func TestNetsApart(t *testing.T) { // rule 5: what a net tells hangs on what was done to it alone
	a, p := filled(t, 3, some(3)...)
	b, q := filled(t, 3)
	wantNet(t, b, q)
	want(t, "Take", func() api.Errno { _, e := b.Take(0); return e }(), api.ErrPacket)
	want(t, "Drop", a.Drop(0), api.OK)
	p.packets, p.counts[2] = p.packets[1:], 1
	wantNet(t, b, q)
	wantNet(t, a, p)
}

// act does something to a net, and to what it is to be.
func act(t *testing.T, r *rand.Rand, n *net.Net, p *plain, most int) {
	t.Helper()
	count := len(p.packets)
	i := r.IntN(count+3) - 1
	there, full := i >= 0 && i < count, count == most
	e := api.OK
	if !there {
		e = api.ErrPacket
	}
	switch r.IntN(7) {
	case 0, 1, 2:
		x := packet(1+r.IntN(2), some(20)[r.IntN(20)].Bytes)
		if e = api.OK; full {
			e = api.ErrQueue
		} else {
			p.packets = append(p.packets, x)
			p.counts[0]++
		}
		want(t, "Send", n.Send(x.From, []byte(x.Bytes)), e)
	case 3:
		var gone api.Packet
		if there {
			gone = p.packets[i]
			p.packets = slices.Delete(p.packets, i, i+1)
			p.counts[1]++
		}
		if got, err := n.Take(i); got != gone || err != e {
			t.Fatalf("Take(%d) = %v, %d, want %v", i, got, int(err), gone)
		}
	case 4:
		if there {
			p.packets = slices.Delete(p.packets, i, i+1)
			p.counts[2]++
		}
		want(t, "Drop", n.Drop(i), e)
	case 5:
		if there && full {
			e = api.ErrQueue
		} else if there {
			p.packets = append(p.packets, p.packets[i])
			p.counts[3]++
		}
		want(t, "Twice", n.Twice(i), e)
	case 6:
		at, bits := r.IntN(10)-1, byte(r.IntN(256))
		if there && (at < 0 || at >= len(p.packets[i].Bytes)) {
			e = api.ErrArg
		} else if there {
			b := []byte(p.packets[i].Bytes)
			b[at] ^= bits
			p.packets[i].Bytes = string(b)
		}
		want(t, "Turn", n.Turn(i, at, bits), e)
	}
}

func TestAnything(t *testing.T) { // P21.1 to P21.6: whatever is done
	r := rand.New(rand.NewPCG(211, 212))
	for _, most := range []int{1, 2, 3, 8, api.MaxQueue} {
		n, p := filled(t, most)
		for range 3000 {
			act(t, r, n, &p, most)
			wantNet(t, n, p)
			if n.Len() > most {
				t.Fatalf("%d packets of %d", n.Len(), most)
			}
		}
	}
}
