package site_test

import (
	"fmt"
	"maps"
	"math"
	"testing"

	"gemel/api"
	"gemel/disk"
	"gemel/probe"
	"gemel/site"
)

// written lets a site write so many changes, and tells them.
func written(t *testing.T, s *site.Site, count int) []api.Change {
	t.Helper()
	var out []api.Change
	for i := range count {
		c, e := s.Write(i, []api.Write{put("k", 0, fmt.Sprint(i))})
		want(t, "Write", e, api.OK)
		out = append(out, c)
	}
	return out
}

// told tells the messages of some changes, by their numbers.
func told(cs []api.Change, numbers ...int) []api.Msg {
	var out []api.Msg
	for _, n := range numbers {
		out = append(out, dataOf(cs[n-1]))
	}
	return out
}

func TestSendWindow(t *testing.T) { // P26.3: what the window tells, as it was written
	for _, n := range []int{1, 2} {
		l := groups()
		s, d := fresh(t, l, n) // size 2, wait 3
		cs := written(t, s, 5)
		for _, x := range []struct {
			now, ack int // what is answered ahead of it
			want     []int
		}{
			{0, 0, []int{1, 2}}, {1, 0, nil}, {2, 0, nil}, {3, 0, []int{1, 2}}, {4, 1, []int{3}}, {6, 1, nil}, {7, 1, []int{2, 3}}, {8, 3, []int{4, 5}}, {10, 4, nil}, {11, 4, []int{5}}, {12, 5, nil}, {api.MaxTime, 5, nil},
		} {
			if x.ack > 0 {
				wantHear(t, l, s, ackOf(3-n, x.ack, 0))
			}
			ops, before := d.Ops(), look(s)
			wantSend(t, l, s, x.now, told(cs, x.want...)...)
			if d.Ops() != ops || look(s) != before { // P26.9
				t.Fatalf("Send(%d): %d operations, %s", x.now, d.Ops()-ops, look(s))
			}
		}
	}
}

func TestSendAgain(t *testing.T) { // P26.1 and P26.3: opened again the window is new, and no answer is owed
	l := groups()
	s, d := fresh(t, l, 1)
	cs := written(t, s, 3)
	wantSend(t, l, s, 0, told(cs, 1, 2)...)
	wantSend(t, l, s, 1)
	wantHear(t, l, s, dataOf(by(2, 1, put("m", 0, "x"))))
	s = open(t, conf(l, 1), d)
	wantSend(t, l, s, 3, told(cs, 1, 2)...)
	wantKnows(t, s, api.Vec{3, 1})
	wantHear(t, l, s, ackOf(2, 2, 0))
	s = open(t, conf(l, 1), d)
	wantSend(t, l, s, 3, told(cs, 3)...)
}

func TestSendAnswer(t *testing.T) { // P26.3: once for all that came, ahead of the changes; it is synced, if it is not sure
	for _, n := range []int{1, 2} {
		l := groups()
		s, d := fresh(t, l, n)
		answer := func(now, ops int, told ...api.Msg) {
			t.Helper()
			before, files, look0 := d.Ops(), probe.Files(d), look(s)
			wantSend(t, l, s, now, told...)
			if d.Ops()-before != ops || !maps.Equal(probe.Files(d), files) || look(s) != look0 {
				t.Fatalf("Send(%d): %d operations, want %d, or something has changed", now, d.Ops()-before, ops)
			}
		}
		answer(0, 0)
		for seq := 1; seq <= 3; seq++ {
			wantHear(t, l, s, dataOf(by(3-n, seq, put("k", 0, fmt.Sprint(seq)))))
		}
		answer(0, 1, ackOf(n, 3, 0))
		answer(0, 0)
		wantHear(t, l, s, dataOf(by(3-n, 2, put("k", 0, "2")))) // an old one: it is answered again, and is sure already
		answer(0, 0, ackOf(n, 3, 0))
		wantHear(t, l, s, dataOf(by(3-n, 4, put("k", 0, "4"))))
		cs := written(t, s, 1) // which is synced
		answer(0, 0, append([]api.Msg{ackOf(n, 4, 1)}, told(cs, 1)...)...)
		wantHear(t, l, s, dataOf(by(3-n, 5, put("k", 0, "5"))))
		cs = append(cs, written(t, s, 2)...)
		wantHear(t, l, s, dataOf(by(3-n, 6, put("k", 0, "6"))))
		cs[1].Vec[2-n], cs[2].Vec[2-n] = 5, 5
		answer(3, 1, append([]api.Msg{ackOf(n, 6, 3)}, told(cs, 1, 2)...)...)
		answer(4, 0)
	}
}

func TestSendNoAnswer(t *testing.T) { // P26.3 and P26.4: of changes alone that are not refused
	l := groups()
	s, d := fresh(t, l, 1)
	cs := written(t, s, 1)
	wantSend(t, l, s, 0, told(cs, 1)...)
	wantRefused(t, s, d, bytesOf(t, l, dataOf(by(2, 2, put("k", 0, "x")))), api.ErrGap)
	wantRefused(t, s, d, bytesOf(t, l, dataOf(cs[0])), api.ErrOrigin)
	wantHear(t, l, s, ackOf(2, 1, 0))
	wantHear(t, l, s, leafOf(2, []int{8, 2}, api.Vec{}, false, probe.One(l, "k", 0, api.Cell{Stamp: api.Stamp{N: 99, Site: 2}})))
	s.Ask()
	s.Collect()
	s.Check()
	wantSend(t, l, s, 0)
}

func TestSendErrorsInOrder(t *testing.T) { // P26.3
	l := groups()
	s, d := fresh(t, l, 1)
	wantHear(t, l, s, dataOf(by(2, 1, put("k", 0, "x"))))
	cs := written(t, s, 1)
	for _, now := range []int{-1, api.MaxTime + 1, math.MinInt, math.MaxInt} {
		wantUnchanged(t, s, d, func() {
			if out, e := s.Send(now); len(out) != 0 || e != api.ErrArg {
				t.Errorf("Send(%d) = %q, %d", now, out, int(e))
			}
		})
		for s, d := range dead(t, l) {
			wantUnchanged(t, s, d, func() {
				if out, e := s.Send(now); len(out) != 0 || e != api.ErrPower {
					t.Errorf("Send(%d) = %q, %d", now, out, int(e))
				}
			})
		}
	}
	wantSend(t, l, s, api.MaxTime, append([]api.Msg{ackOf(1, 1, 1)}, told(cs, 1)...)...) // nothing was sent ahead of that
}

func TestSendStruck(t *testing.T) { // P26.3: the sync's error, and nothing is told; P26.8: what was not synced is not answered
	l := groups()
	for _, keep := range []int{0, math.MaxInt} {
		s, d := fresh(t, l, 1)
		written(t, s, 1)
		wantHear(t, l, s, dataOf(by(2, 1, put("k", 0, "x"))))
		want(t, "Arm", d.Arm(0, keep), api.OK)
		if out, e := s.Send(0); len(out) != 0 || e != api.ErrPower || s.On() {
			t.Errorf("Send = %q, %d, On %t", out, int(e), s.On())
		}
		d.Power()
		s = open(t, conf(l, 1), d)
		wantKnows(t, s, api.Vec{1, min(keep, 1)})
	}
}

func TestSendSure(t *testing.T) { // P26.8
	l := groups()
	for _, keep := range []int{-1, 0, 1, 20} {
		s, d := fresh(t, l, 2)
		for seq := 1; seq <= 4; seq++ {
			wantHear(t, l, s, dataOf(by(1, seq, put("k", 0, fmt.Sprint(seq)))))
			if seq == 3 {
				wantSend(t, l, s, 0, ackOf(2, 3, 0))
			}
		}
		want(t, "Fail", d.Fail(keep), api.OK)
		d.Power()
		s = open(t, conf(l, 2), d)
		wantKnows(t, s, api.Vec{3, 0}) // the fourth one was never answered
		if v, ok := s.Get("k"); !ok || v.Fields[0].Value != "3" {
			t.Errorf("Get = %v", v)
		}
	}
}

func TestSendMany(t *testing.T) { // P26.3: as many as a site can have that are not answered
	l := groups()
	d := laid(t, l, nil, known(l, 1, api.MaxSeq-400, api.MaxSeq, 7)...)
	c := conf(l, 1)
	c.Flight, c.Wait = api.MaxFlight, api.MaxWait
	s := open(t, c, d)
	pending := s.Pending()
	if len(pending) != 400 {
		t.Fatalf("%d are pending", len(pending))
	}
	var told []api.Msg
	for _, c := range pending[:api.MaxFlight] {
		told = append(told, dataOf(c))
	}
	wantSend(t, l, s, 0, told...)
	wantHear(t, l, s, ackOf(2, api.MaxSeq, 7))
	if len(s.Pending()) != 0 || s.Front().Stable != api.MaxSeq {
		t.Errorf("%s", short(look(s)))
	}
	wantSend(t, l, s, 1)
	wantUnchanged(t, s, d, func() {
		_, e := s.Write(0, []api.Write{put("k", 0, "x")})
		want(t, "Write", e, api.ErrLong)
	})
}

func TestSendFull(t *testing.T) { // P26.2 and P26.4: a site without room for more notes goes on as soon as some are answered
	l := groups()
	d := disk.New(probe.Ample)
	s := open(t, site.Conf{Site: 1, Groups: l, Size: api.MaxFile, Flight: 1, Wait: 1}, d)
	written(t, s, api.MaxNotes-2) // besides know and time
	wantUnchanged(t, s, d, func() {
		_, e := s.Write(0, []api.Write{put("k", 0, "x")})
		want(t, "Write", e, api.ErrRoom)
	})
	wantHear(t, l, s, ackOf(2, 1, 0)) // front comes, and one goes
	wantHear(t, l, s, ackOf(2, 2, 0))
	written(t, s, 1)
	if len(s.Pending()) != api.MaxNotes-3 || s.Front().Acked != 2 {
		t.Errorf("%d are pending, front %v", len(s.Pending()), s.Front())
	}
}
