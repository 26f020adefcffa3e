package site_test

import (
	"fmt"
	"maps"
	"math"
	"math/rand/v2"
	"testing"

	"gemel/api"
	"gemel/apply"
	"gemel/disk"
	"gemel/frontier"
	"gemel/merkle"
	"gemel/model"
	"gemel/probe"
	"gemel/resync"
	"gemel/site"
	"gemel/store"
	"gemel/vec"
	"gemel/window"
)

// mirrored is a site, and a mirror: a store and a window with which that is done which the site's calls are to do.
type mirrored struct {
	t       *testing.T
	c       site.Conf
	d, flat *disk.Disk
	s       *site.Site
	m       *store.Store
	w       *window.Window
	front   frontier.Front
	low     api.Vec
	pending []api.Change
	owes    bool
}

func newMirrored(t *testing.T, c site.Conf) *mirrored {
	t.Helper()
	p := &mirrored{t: t, c: c, d: disk.New(probe.Ample), flat: disk.New(probe.Ample), front: frontier.Front{Site: c.Site}}
	p.reopen()
	return p
}

// reopen opens both again.
func (p *mirrored) reopen() {
	p.t.Helper()
	p.s = open(p.t, p.c, p.d)
	var e api.Errno
	p.m, e = store.Open(p.c.Groups, p.flat, p.c.Size)
	want(p.t, "Open", e, api.OK)
	p.w, e = window.New(p.c.Flight, p.c.Wait)
	want(p.t, "New", e, api.OK)
	p.owes = false
	p.same()
}

// rows tells the mirror's rows.
func (p *mirrored) rows() []api.Row { return p.m.Scan("", "", math.MaxInt) }

// count tells how many changes of a site the mirror knows.
func (p *mirrored) count(n int) int { return apply.Know(p.m)[n-1] }

// same wants that both are the same, byte by byte, and that the site tells what is there.
func (p *mirrored) same() {
	p.t.Helper()
	rows, l := p.rows(), p.c.Groups
	if told := fmt.Sprintf("rows %v, know %v, low %v, front %v, pending %v, on true", rows, apply.Know(p.m), p.low, p.front, p.pending); look(p.s) != told {
		p.t.Fatalf("%s, want %s", look(p.s), told)
	}
	if got, views := p.s.Scan("", "", math.MaxInt), model.Scan(l, rows, "", "", math.MaxInt); fmt.Sprint(got) != fmt.Sprint(views) {
		p.t.Fatalf("Scan = %v, want %v", got, views)
	}
	if p.d.Ops() != p.flat.Ops() || !maps.Equal(probe.Files(p.d), probe.Files(p.flat)) {
		p.t.Fatalf("%d operations, files %q, want %d, %q", p.d.Ops(), probe.Files(p.d), p.flat.Ops(), probe.Files(p.flat))
	}
}

// write writes.
func (p *mirrored) write(now int, w []api.Write) {
	p.t.Helper()
	c, e := apply.Local(p.c.Groups, p.m, p.c.Site, now, w)
	if e == api.OK {
		p.pending = append(p.pending, c)
	}
	if got, e2 := p.s.Write(now, w); fmt.Sprint(got) != fmt.Sprint(c) || e2 != e {
		p.t.Fatalf("Write(%d, %v) = %v, %d, want %v, %d", now, w, got, int(e2), c, int(e))
	}
	p.same()
}

// send sends.
func (p *mirrored) send(now int) {
	p.t.Helper()
	var told []api.Msg
	n := p.c.Site
	if p.owes {
		if !p.m.Sure() {
			want(p.t, "Sync", p.m.Sync(), api.OK)
		}
		told = append(told, ackOf(n, p.count(3-n), p.count(n)))
	}
	numbers, e := p.w.Next(p.front.Acked, p.count(n), now)
	want(p.t, "Next", e, api.OK)
	for _, i := range numbers {
		told = append(told, dataOf(p.pending[i-p.front.Acked-1]))
	}
	p.owes = false
	wantSend(p.t, p.c.Groups, p.s, now, told...)
	p.same()
}

// hear hears a message, whatever it may be, but for those of none of the kinds.
func (p *mirrored) hear(m api.Msg) {
	p.t.Helper()
	l := p.c.Groups
	var told []api.Msg
	e := api.OK
	switch m.Kind {
	case api.MsgData:
		_, e = apply.Remote(l, p.m, p.c.Site, m.Change)
		p.owes = p.owes || e == api.OK
	case api.MsgAck:
		e = p.learn(m)
	default:
		var rows []api.Row
		told, rows, e = resync.Hear(resync.Side{Groups: l, Site: p.c.Site, Know: apply.Know(p.m), Low: p.low, Rows: p.rows()}, m)
		if len(rows) > 0 {
			_, e = apply.Merge(l, p.m, rows)
		}
	}
	out, e2 := p.s.Hear(bytesOf(p.t, l, m))
	want(p.t, "Hear of "+short(m), e2, e)
	if e == api.OK {
		wantFrames(p.t, l, out, e2, told...)
	} else if len(out) > 0 {
		p.t.Fatalf("told are %q beside an error", out)
	}
	p.same()
}

// learn lets the mirror take note of an answer.
func (p *mirrored) learn(m api.Msg) api.Errno {
	p.t.Helper()
	f, e := frontier.Learn(p.front, apply.Know(p.m), m.Ack, m.Own)
	if e != api.OK || f == p.front {
		return e
	}
	notes := []api.Note{frontNote(f.Acked, f.Stable, f.Wait, f.Until)}
	for len(p.pending) > 0 && p.pending[0].Seq <= f.Acked {
		notes = append(notes, note(ownNote(p.c.Groups, p.pending[0]).Name, ""))
		p.pending = p.pending[1:]
	}
	p.front = f
	return p.m.Do(store.Tx{Notes: notes})
}

// collect lets traces go, and tells of how many rows.
func (p *mirrored) collect() int {
	p.t.Helper()
	know := apply.Know(p.m)
	f, e := frontier.Settle(p.front, know) // which is not kept
	want(p.t, "Settle", e, api.OK)
	stable, e := frontier.Stable(f, know)
	want(p.t, "Stable", e, api.OK)
	rows, low, e := frontier.Sweep(p.c.Groups, p.rows(), stable)
	want(p.t, "Sweep", e, api.OK)
	if len(rows) > 0 {
		p.low = vec.Join(p.low, low)
		want(p.t, "Do", p.m.Do(store.Tx{Rows: rows, Notes: []api.Note{lowNote(p.low)}}), api.OK)
	}
	if n, e := p.s.Collect(); n != len(rows) || e != api.OK {
		p.t.Fatalf("Collect = %d, %d, want %d", n, int(e), len(rows))
	}
	p.same()
	return len(rows)
}

// check makes a checkpoint.
func (p *mirrored) check() {
	p.t.Helper()
	want(p.t, "Check", p.m.Check(), api.OK)
	want(p.t, "Check", p.s.Check(), api.OK)
	p.same()
}

// ask begins a resync.
func (p *mirrored) ask() {
	p.t.Helper()
	m, e := resync.Ask(resync.Side{Groups: p.c.Groups, Site: p.c.Site, Rows: p.rows()})
	want(p.t, "Ask", e, api.OK)
	b, e := p.s.Ask()
	wantFrames(p.t, p.c.Groups, [][]byte{b}, e, m)
	p.same()
}

// writesOf tells any writes, of few places.
func writesOf(r *rand.Rand, l []api.Group) []api.Write {
	var out []api.Write
	for range 1 + r.IntN(3) {
		w := put(string(rune('k'+r.IntN(4))), r.IntN(len(l)), fmt.Sprint(r.IntN(50)))
		if r.IntN(2) == 0 {
			w = gone(w.Key, w.Group)
		}
		out = append(out, w)
	}
	return out
}

// message tells any message of the other site.
func (p *mirrored) message(r *rand.Rand) api.Msg {
	n := p.c.Site
	switch r.IntN(8) {
	case 0, 1, 2:
		c := by(3-n, max(1, p.count(3-n)+r.IntN(4)-1), writesOf(r, p.c.Groups)[0])
		c.Vec[n-1] = r.IntN(p.count(n) + 1)
		return dataOf(c)
	case 3, 4, 5:
		return ackOf(3-n, r.IntN(p.count(n)+2), p.count(3-n)+r.IntN(3)-min(1, p.count(3-n)))
	}
	return p.digests(r)
}

// digests tells any message of a resync.
func (p *mirrored) digests(r *rand.Rand) api.Msg {
	l := p.c.Groups
	rows := probe.States(l)[r.IntN(9)]
	if r.IntN(2) == 0 {
		rows = p.rows()
	}
	x, e := merkle.New(l, rows)
	want(p.t, "New", e, api.OK)
	path := []int{r.IntN(16), r.IntN(16)}
	if len(rows) > 0 && r.IntN(4) > 0 {
		path = merkle.Path(rows[r.IntN(len(rows))].Key)
	}
	m := api.Msg{Kind: api.MsgAsk + r.IntN(3), Site: 3 - p.c.Site}
	switch m.Kind {
	case api.MsgAsk:
		m.Path = path[:r.IntN(3)]
		sum, _ := x.Sum(m.Path)
		m.Sums = []api.Digest{sum}
	case api.MsgTell:
		m.Path = path[:r.IntN(2)]
		m.Sums, _ = x.Sums(m.Path)
	case api.MsgLeaf:
		m.Path, m.Back = path, r.IntN(2) == 0
		m.Rows, _ = x.Rows(path)
		if m.Know = vec.Join(p.low, api.Vec{r.IntN(3), r.IntN(3)}); r.IntN(3) == 0 {
			m.Know[r.IntN(2)] = 0
		}
	}
	return m
}

func TestMirrored(t *testing.T) { // P26.2 to P26.6: whatever is done, and in whatever turns
	r := rand.New(rand.NewPCG(261, 262))
	swept, acked := 0, 0
	for turn := range 70 {
		l := probe.Schemas()[turn%len(probe.Schemas())]
		p := newMirrored(t, site.Conf{Site: 1 + turn%2, Groups: l, Size: []int{1, 200, 1 << 20}[turn%3], Flight: 1 + turn%5, Wait: 1 + turn%4})
		for i := range 80 {
			switch r.IntN(12) {
			case 0, 1:
				p.write(r.IntN(200), writesOf(r, l))
			case 2, 3, 4:
				p.send(i / 2)
			case 5, 6, 7, 8:
				p.hear(p.message(r))
			case 9:
				swept += p.collect()
			case 10:
				p.ask()
				if r.IntN(4) == 0 || len(p.d.Names()) > 40 {
					p.check()
				}
			case 11:
				if r.IntN(3) == 0 {
					p.reopen()
				}
			}
			if len(p.d.Names()) > 50 {
				p.check()
			}
		}
		acked += p.front.Acked
	}
	if swept < 50 || acked < 100 {
		t.Errorf("only %d rows were swept, and %d changes answered", swept, acked)
	}
}
