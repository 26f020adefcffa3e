package site_test

import (
	"fmt"
	"testing"

	"gemel/api"
	"gemel/disk"
	"gemel/frontier"
	"gemel/model"
	"gemel/probe"
	"gemel/site"
	"gemel/wire"
)

// some tells messages of all kinds that a site of the chapters' schema takes which knows that many changes.
func some(from int, know api.Vec) []api.Msg {
	l := groups()
	k := probe.One(l, "k", 0, api.Cell{Stamp: api.Stamp{N: 9, Site: 2}, Vec: api.Vec{0, 1}, Value: "x"})
	return []api.Msg{
		dataOf(by(from, know[from-1]+1, put("k", 0, "x"), gone("k", 1))), ackOf(from, know[2-from], 3),
		{Kind: api.MsgAsk, Site: from, Sums: make([]api.Digest, 1)}, {Kind: api.MsgAsk, Site: from, Path: []int{8, 2}, Sums: make([]api.Digest, 1)},
		{Kind: api.MsgTell, Site: from, Path: []int{8}, Sums: make([]api.Digest, 16)}, leafOf(from, []int{8, 2}, know, true, k),
	}
}

func TestHearErrorsInOrder(t *testing.T) { // P26.4
	l := groups()
	s, d := fresh(t, l, 1)
	written(t, s, 2)
	for _, m := range append(some(1, api.Vec{2, 0}), dataOf(by(1, 9, put("k", 0, "x"))), ackOf(1, 9, 0), leafOf(1, []int{1, 1}, api.Vec{}, true, probe.One(l, "k", 0, api.Cell{Stamp: api.Stamp{N: 1, Site: 1}}))) {
		wantRefused(t, s, d, bytesOf(t, l, m), api.ErrOrigin) // ahead of all that is said of its kind
		for s, d := range dead(t, l) {
			wantRefused(t, s, d, bytesOf(t, l, m), api.ErrPower)
		}
	}
	for _, m := range []api.Msg{dataOf(by(2, 2, put("k", 0, "x"))), dataOf(by(2, api.MaxSeq, put("k", 0, "x")))} {
		wantRefused(t, s, d, bytesOf(t, l, m), api.ErrGap)
	}
	for _, ack := range []int{3, 4, api.MaxSeq} {
		wantRefused(t, s, d, bytesOf(t, l, ackOf(2, ack, 0)), api.ErrArg)
	}
	wantRefused(t, s, d, bytesOf(t, l, leafOf(2, []int{8, 3}, api.Vec{}, true, probe.One(l, "k", 0, api.Cell{Stamp: api.Stamp{N: 1, Site: 1}}))), api.ErrTree)
	for s, d := range dead(t, l) {
		for _, b := range [][]byte{nil, []byte("x"), bytesOf(t, l, ackOf(2, 9, 0))} {
			wantRefused(t, s, d, b, api.ErrPower)
		}
	}
}

func TestHearNoMessage(t *testing.T) { // P26.4 and W7: what is no message is refused by wire's error, and changes nothing
	l := groups()
	s, d := fresh(t, l, 1)
	written(t, s, 2)
	refuse := func(b []byte) {
		t.Helper()
		_, e := wire.Decode(l, b)
		if e == api.OK {
			t.Fatalf("%x is a message", b)
		}
		wantRefused(t, s, d, b, e)
	}
	for _, m := range some(2, api.Vec{2, 0}) {
		whole := bytesOf(t, l, m)
		for i := range whole {
			refuse(whole[:i])
			turned := append([]byte(nil), whole...)
			turned[i] ^= 1 << (i % 8)
			refuse(turned)
			refuse(whole[i+1:])
		}
		refuse(append(whole, 0))
		refuse(append(whole, whole...))
	}
	other := probe.Schemas()[5] // a message by another schema
	refuse(bytesOf(t, other, dataOf(by(2, 1, put("k", 3, "x")))))
	refuse(make([]byte, 1<<16))
	wantSend(t, l, s, 0, told(s.Pending(), 1, 2)...) // no answer is owed
}

func TestHearTwice(t *testing.T) { // P26.4 and W2: what comes twice does nothing twice
	for _, l := range probe.Schemas() {
		s, d := fresh(t, l, 2)
		var cs []api.Change
		for _, c := range probe.Changes(l) {
			if c.Site == 1 {
				c.Vec = api.Vec{c.Seq, 0}
				cs = append(cs, c)
			}
		}
		for i, c := range cs {
			ops := d.Ops()
			wantHear(t, l, s, dataOf(c))
			if d.Ops() != ops+1 { // one transaction, and it is not synced
				t.Fatalf("%d operations", d.Ops()-ops)
			}
			rows, e := model.State(l, cs[:i+1])
			if want(t, "State", e, api.OK); !probe.SameRows(s.Rows(), rows) {
				t.Fatalf("Rows = %v, want %v", s.Rows(), rows)
			}
			for _, old := range cs[:i+1] {
				wantUnchanged(t, s, d, func() { wantHear(t, l, s, dataOf(old)) })
			}
			wantKnows(t, s, c.Vec)
			if len(s.Pending()) != 0 {
				t.Fatalf("%v are pending", s.Pending())
			}
		}
	}
}

func TestHearAck(t *testing.T) { // P26.4: frontier's Learn; what is answered is pending no more
	for _, n := range []int{1, 2} {
		l := groups()
		d := laid(t, l, nil, known(l, n, 1, 6, 4)...)
		s := open(t, conf(l, n), d)
		for _, x := range []struct {
			ack, own int
			want     frontier.Front
		}{
			{0, 4, frontier.Front{Acked: 1}}, {0, 9, frontier.Front{Acked: 1}},
			{1, 9, frontier.Front{Acked: 1, Wait: 1, Until: 9}}, // nothing goes, but the front is another one
			{1, 9, frontier.Front{Acked: 1, Wait: 1, Until: 9}},
			{3, 5, frontier.Front{Acked: 3, Wait: 1, Until: 9}}, {2, 4, frontier.Front{Acked: 3, Stable: 2, Wait: 1, Until: 9}},
			{3, 4, frontier.Front{Acked: 3, Stable: 3, Wait: 1, Until: 9}}, {2, 0, frontier.Front{Acked: 3, Stable: 3, Wait: 1, Until: 9}}, // an old one
			{6, api.MaxSeq, frontier.Front{Acked: 6, Stable: 3, Wait: 1, Until: 9}},
			{6, 0, frontier.Front{Acked: 6, Stable: 6, Wait: 1, Until: 9}},
		} {
			x.want.Site = n
			before, ops := s.Front(), d.Ops()
			wantHear(t, l, s, ackOf(3-n, x.ack, x.own))
			if s.Front() != x.want || len(s.Pending()) != 6-x.want.Acked || len(s.Pending()) > 0 && s.Pending()[0].Seq != x.want.Acked+1 {
				t.Fatalf("behind %d, %d: %s, want %v", x.ack, x.own, look(s), x.want)
			}
			done := d.Ops() - ops
			if done > 1 || (done == 1) != (s.Front() != before) {
				t.Fatalf("behind %d, %d: %d operations", x.ack, x.own, done)
			}
			told := look(s)
			s = open(t, conf(l, n), d)
			if look(s) != told {
				t.Fatalf("opened again: %s, want %s", look(s), told)
			}
		}
	}
}

func TestHearSettles(t *testing.T) { // P26.4: an ack lets one settle that waited, also if it tells nothing itself
	l := groups()
	s, _ := fresh(t, l, 1)
	written(t, s, 3)
	wantHear(t, l, s, ackOf(2, 2, 1))
	if s.Front() != (frontier.Front{Site: 1, Acked: 2, Wait: 2, Until: 1}) {
		t.Errorf("%s", look(s))
	}
	wantHear(t, l, s, dataOf(by(2, 1, put("k", 0, "x")))) // a change alone does not
	if s.Front() != (frontier.Front{Site: 1, Acked: 2, Wait: 2, Until: 1}) {
		t.Errorf("%s", look(s))
	}
	wantHear(t, l, s, ackOf(2, 0, 0))
	if s.Front() != (frontier.Front{Site: 1, Acked: 2, Stable: 2}) {
		t.Errorf("%s", look(s))
	}
}

func TestHearLeaf(t *testing.T) { // P26.4: resync's, of its side; joined by apply's Merge
	l := groups()
	k := probe.One(l, "k", 0, api.Cell{Stamp: api.Stamp{N: 900, Site: 2}, Vec: api.Vec{0, 7}, Value: "far"})
	for _, x := range []struct {
		low, know api.Vec
		joined    bool
	}{{api.Vec{}, api.Vec{}, true}, {api.Vec{5, 6}, api.Vec{5, 6}, true}, {api.Vec{5, 6}, api.Vec{5, 5}, false}, {api.Vec{5, 6}, api.Vec{4, 9}, false}} {
		for _, back := range []bool{false, true} {
			d := laid(t, l, nil, append(known(l, 1, 0, 2, 1), lowNote(x.low))...)
			s := open(t, conf(l, 1), d)
			s.Write(0, []api.Write{put("k", 1, "own"), put("m", 1, "own")})
			own, ops := s.Rows()[:1], d.Ops()
			var told []api.Msg
			if back {
				told = append(told, leafOf(1, []int{8, 2}, api.Vec{3, 1}, false, own...)) // as it was ahead of it
			}
			wantHear(t, l, s, leafOf(2, []int{8, 2}, x.know, back, k), told...)
			if both, _ := model.Merge(l, own, []api.Row{k}); x.joined && !probe.SameRows(s.Rows()[:1], both) || !x.joined && !probe.SameRows(s.Rows()[:1], own) {
				t.Errorf("Rows = %v", s.Rows())
			}
			if done := d.Ops() - ops; x.joined && done != 1 || !x.joined && done != 0 {
				t.Errorf("%d operations", done)
			}
			wantUnchanged(t, s, d, func() { s.Hear(bytesOf(t, l, leafOf(2, []int{8, 2}, x.know, back, k))) })                                  // nothing is done twice
			if c, e := s.Write(0, []api.Write{put("m", 0, "x")}); e != api.OK || x.joined && c.Stamp.N != 901 || !x.joined && c.Stamp.N > 99 { // W6
				t.Errorf("Write = %v, %d", c, int(e))
			}
		}
	}
}

func TestHearRoom(t *testing.T) { // P26.4: what there is no room for is refused, and changes nothing; no answer is owed
	l := groups()
	var rows []api.Row
	for i := range api.MaxRows {
		rows = append(rows, probe.One(l, fmt.Sprintf("a%d", 1000+i), 0, api.Cell{Stamp: api.Stamp{N: 1, Site: 2}, Vec: api.Vec{0, 1}, Value: "x"}))
	}
	d := laid(t, l, rows, known(l, 1, 0, 1, 0)...)
	s := open(t, conf(l, 1), d)
	wantRefused(t, s, d, bytesOf(t, l, dataOf(by(2, 1, put("k", 0, "x")))), api.ErrRoom)
	for _, back := range []bool{false, true} {
		wantRefused(t, s, d, bytesOf(t, l, leafOf(2, []int{8, 2}, api.Vec{}, back, probe.One(l, "k", 0, api.Cell{Stamp: api.Stamp{N: 9, Site: 2}}))), api.ErrRoom)
	}
	wantSend(t, l, s, 0, told(s.Pending(), 1)...)
	wantHear(t, l, s, dataOf(by(2, 1, put(rows[0].Key, 0, "x"))))

	small := disk.New(60)
	s = open(t, conf(l, 1), small)
	written(t, s, 1)
	for _, m := range []api.Msg{dataOf(by(2, 1, put("k", 0, "x"))), ackOf(2, 1, 0), some(2, api.Vec{})[5]} {
		wantRefused(t, s, small, bytesOf(t, l, m), api.ErrRoom)
	}
	if len(s.Pending()) != 1 {
		t.Errorf("%s", look(s))
	}
}

func TestHearStruck(t *testing.T) { // P26.4: power that fails in it
	l := groups()
	for i, m := range some(2, api.Vec{2, 0}) {
		for _, keep := range []int{0, 1 << 20} {
			s, d := fresh(t, l, 1)
			written(t, s, 2)
			before := look(s)
			want(t, "Arm", d.Arm(0, keep), api.OK)
			out, e := s.Hear(bytesOf(t, l, m))
			if writes := i < 2 || i == 5; writes != (e == api.ErrPower) || writes != !s.On() || writes && len(out) != 0 {
				t.Fatalf("Hear of %v = %q, %d, On %t", m, out, int(e), s.On())
			}
			d.Fail(keep) // without a plan that may be there
			d.Power()
			s = open(t, conf(l, 1), d)
			if keep == 0 && look(s) != before {
				t.Errorf("%s, want %s", look(s), before)
			}
		}
	}
}

func TestAsk(t *testing.T) { // P26.5: resync's, of its side
	for _, l := range probe.Schemas() {
		p := newMirrored(t, site.Conf{Site: 2, Groups: l, Size: 900, Flight: 1, Wait: 1})
		for i, c := range probe.Changes(l) {
			p.write(i, c.Writes)
			p.ask()
		}
	}
	for s, d := range dead(t, groups()) {
		wantUnchanged(t, s, d, func() {
			if b, e := s.Ask(); len(b) != 0 || e != api.ErrPower {
				t.Errorf("Ask = %q, %d", b, int(e))
			}
		})
	}
}
