package site_test

import (
	"fmt"
	"maps"
	"testing"

	"gemel/api"
	"gemel/disk"
	"gemel/frontier"
	"gemel/probe"
	"gemel/site"
)

// wantCollect wants that traces of so many rows go, and what low is then.
func wantCollect(t *testing.T, s *site.Site, n int, low api.Vec) {
	t.Helper()
	seen, pending, know, front := fmt.Sprint(s.Scan("", "", 999)), fmt.Sprint(s.Pending()), s.Know(), s.Front()
	if got, e := s.Collect(); got != n || e != api.OK || s.Low() != low {
		t.Fatalf("Collect = %d, %d, low %v, want %d, %v", got, int(e), s.Low(), n, low)
	}
	if fmt.Sprint(s.Scan("", "", 999)) != seen || fmt.Sprint(s.Pending()) != pending || s.Know() != know || s.Front() != front { // P26.9
		t.Fatalf("something has changed: %s", look(s))
	}
}

func TestCollect(t *testing.T) { // P26.6
	l := groups()
	s, d := fresh(t, l, 1)
	for i, w := range []api.Write{gone("k", 0), gone("m", 1), put("m", 0, "x"), gone("n", 0), put("n", 0, "again")} {
		if _, e := s.Write(i, []api.Write{w}); e != api.OK {
			t.Fatalf("Write: %d", int(e))
		}
	}
	wantUnchanged(t, s, d, func() { wantCollect(t, s, 0, api.Vec{}) }) // none is answered
	wantHear(t, l, s, ackOf(2, 1, 0))
	wantCollect(t, s, 1, api.Vec{1, 0})
	wantUnchanged(t, s, d, func() { wantCollect(t, s, 0, api.Vec{1, 0}) })
	wantHear(t, l, s, ackOf(2, 5, 0))
	ops := d.Ops()
	wantCollect(t, s, 1, api.Vec{2, 0}) // of m's cells the trace alone; n is written again
	if d.Ops() != ops+1 {
		t.Errorf("%d operations", d.Ops()-ops)
	}
	if rows := fmt.Sprint(s.Rows()); rows != "[{m [{{3 1} [3 0] false x [0 0]} {{0 0} [0 0] false  [0 0]}]} {n [{{5 1} [5 0] false again [0 0]} {{0 0} [0 0] false  [0 0]}]}]" {
		t.Errorf("Rows = %s", rows)
	}
	told := look(s)
	if s = open(t, conf(l, 1), d); look(s) != told {
		t.Errorf("%s, want %s", look(s), told)
	}
}

func TestCollectLow(t *testing.T) { // P26.6: the join of Low and of what Sweep told
	l := groups()
	trace := func(key string, vec api.Vec) api.Row {
		return probe.One(l, key, 0, api.Cell{Stamp: api.Stamp{N: 1, Site: 1}, Vec: vec, Gone: true})
	}
	for _, x := range []struct{ low, vec, want api.Vec }{{api.Vec{}, api.Vec{1, 2}, api.Vec{1, 2}}, {api.Vec{3, 0}, api.Vec{1, 2}, api.Vec{3, 2}}, {api.Vec{0, 9}, api.Vec{1, 2}, api.Vec{1, 9}}, {api.Vec{5, 6}, api.Vec{1, 2}, api.Vec{5, 6}}, {api.Vec{}, api.Vec{}, api.Vec{}}} {
		notes := append(known(l, 1, 4, 4, 9), lowNote(x.low))
		notes[1] = frontNote(4, 4, 0, 0)
		s := open(t, conf(l, 1), laid(t, l, []api.Row{trace("k", x.vec), trace("m", api.Vec{0, 10}), trace("n", api.Vec{5, 0})}, notes...))
		wantCollect(t, s, 1, x.want)
		if len(s.Rows()) != 2 {
			t.Errorf("Rows = %v", s.Rows())
		}
	}
}

func TestCollectSettles(t *testing.T) { // P26.6: by the front behind Settle, which is not kept
	l := groups()
	for _, n := range []int{1, 2} {
		s, _ := fresh(t, l, n)
		if _, e := s.Write(0, []api.Write{gone("k", 0)}); e != api.OK {
			t.Fatalf("Write: %d", int(e))
		}
		wantHear(t, l, s, ackOf(3-n, 1, 2))
		var low api.Vec
		wantCollect(t, s, 0, low)
		for seq := 1; seq <= 2; seq++ {
			wantCollect(t, s, 0, low)
			wantHear(t, l, s, dataOf(by(3-n, seq, put("m", 0, "x"))))
		}
		if s.Front() != (frontier.Front{Site: n, Acked: 1, Wait: 1, Until: 2}) {
			t.Errorf("%s", look(s))
		}
		low[n-1] = 1
		wantCollect(t, s, 1, low)
		if s.Front() != (frontier.Front{Site: n, Acked: 1, Wait: 1, Until: 2}) {
			t.Errorf("%s", look(s))
		}
	}
}

func TestCollectErrors(t *testing.T) { // P26.6
	l := groups()
	for s, d := range dead(t, l) {
		wantUnchanged(t, s, d, func() {
			if n, e := s.Collect(); n != 0 || e != api.ErrPower {
				t.Errorf("Collect = %d, %d", n, int(e))
			}
		})
	}
	for _, keep := range []int{0, 1 << 20} { // in it, too
		s, d := fresh(t, l, 1)
		s.Write(0, []api.Write{gone("k", 0)})
		wantHear(t, l, s, ackOf(2, 1, 0))
		s.Check()
		before := look(s)
		want(t, "Arm", d.Arm(0, keep), api.OK)
		if n, e := s.Collect(); n != 0 || e != api.ErrPower || s.On() {
			t.Errorf("Collect = %d, %d, On %t", n, int(e), s.On())
		}
		d.Power()
		if s = open(t, conf(l, 1), d); keep == 0 && look(s) != before || keep > 0 && (len(s.Rows()) != 0 || s.Low() != (api.Vec{1, 0})) {
			t.Errorf("%s", look(s))
		}
	}
	for room := 60; ; room++ { // the least one in which there is room for all but for this
		d := disk.New(room)
		s := open(t, conf(l, 1), d)
		if _, e := s.Write(0, []api.Write{gone("k", 0)}); e != api.OK {
			continue
		}
		if _, e := s.Hear(bytesOf(t, l, ackOf(2, 1, 0))); e != api.OK {
			continue
		}
		wantUnchanged(t, s, d, func() {
			if n, e := s.Collect(); n != 0 || e != api.ErrRoom {
				t.Errorf("Collect = %d, %d", n, int(e))
			}
		})
		break
	}
}

func TestWholeExamples(t *testing.T) { // examples 4 to 9 of the whole
	l := groups()
	a, _ := fresh(t, l, 1)
	b, d := fresh(t, l, 2)
	a.Write(0, []api.Write{put("k", 0, "x")})
	frames, e := a.Send(0)
	want(t, "Send", e, api.OK)
	turned := append([]byte(nil), frames[0]...)
	turned[5] ^= 1
	wantRefused(t, b, d, turned, api.ErrSum) // 5
	if out, _ := a.Send(2); len(out) != 0 {
		t.Errorf("Send = %q", out)
	}
	again, _ := a.Send(3)
	b.Hear(again[0])
	rows := fmt.Sprint(b.Rows())
	b.Hear(frames[0])
	if b.Know() != (api.Vec{1, 0}) || fmt.Sprint(b.Rows()) != rows { // 4
		t.Errorf("%s", look(b))
	}
	d.Fail(0)
	d.Power()
	b = open(t, conf(l, 2), d)
	wantKnows(t, b, api.Vec{}) // 6
	b.Hear(frames[0])
	answer, _ := b.Send(0)
	d.Fail(0)
	d.Power()
	b = open(t, conf(l, 2), d)
	wantKnows(t, b, api.Vec{1, 0}) // 7
	a.Hear(answer[0])
	a.Write(4, []api.Write{gone("k", 0)})
	late, _ := b.Ask() // b has still x, and knows of no delete
	tells, _ := a.Hear(late)
	asks, _ := b.Hear(tells[0])
	leaves, _ := a.Hear(asks[0])
	leaves, _ = b.Hear(leaves[0])
	back, _ := a.Hear(leaves[0])
	bring(t, a, b, 9)
	bring(t, b, a, 9)
	wantCollect(t, a, 1, api.Vec{2, 0}) // 8
	if len(a.Rows()) != 0 || len(back) != 1 {
		t.Errorf("Rows = %v, told are %q", a.Rows(), back)
	}
	for range 2 {
		if out, e := a.Hear(leaves[0]); len(a.Rows()) != 0 || len(out) != 1 || e != api.OK { // 9
			t.Errorf("%s, told are %q, %d", look(a), out, int(e))
		}
	}
}

// bring lets a site hear all that the other one sends.
func bring(t *testing.T, from, to *site.Site, now int) {
	t.Helper()
	frames, e := from.Send(now)
	want(t, "Send", e, api.OK)
	for _, b := range frames {
		if _, e := to.Hear(b); e != api.OK {
			t.Fatalf("Hear: %d", int(e))
		}
	}
}

func TestCollectThenSend(t *testing.T) { // P26.9: letting traces go touches no file but by one transaction, and what is sent stays
	l := groups()
	s, d := fresh(t, l, 1)
	cs := written(t, s, 2)
	c, e := s.Write(9, []api.Write{gone("k", 0)})
	want(t, "Write", e, api.OK)
	wantHear(t, l, s, ackOf(2, 2, 0))
	wantHear(t, l, s, dataOf(by(2, 1, gone("far", 1))))
	files := probe.Files(d)
	wantCollect(t, s, 1, api.Vec{0, 1})
	if maps.Equal(probe.Files(d), files) {
		t.Error("nothing is kept")
	}
	wantSend(t, l, s, 0, append([]api.Msg{ackOf(1, 1, 3)}, dataOf(c))...)
	if len(cs) != 2 || len(s.Pending()) != 1 {
		t.Errorf("%v are pending", s.Pending())
	}
}
