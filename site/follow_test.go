package site_test

import (
	"fmt"
	"math"
	"math/rand/v2"
	"slices"
	"testing"

	"gemel/api"
	"gemel/disk"
	"gemel/merkle"
	"gemel/model"
	"gemel/probe"
	"gemel/site"
	"gemel/stamp"
	"gemel/vec"
	"gemel/wire"
)

// keeps is what failures keep: nothing, a part of a frame, all.
var keeps = []int{-1, 0, 1, 9, 40, 120, 1 << 20}

// player is one of two sites, of which it is known what it is to hold.
type player struct {
	site.Conf
	d       *disk.Disk
	s       *site.Site
	written []api.Change // for good
	held    int          // of the other one's, as it answered
	here    [][]byte     // on their way to it
}

// play is two sites, and what came to pass.
type play struct {
	t        *testing.T
	r        *rand.Rand
	l        []api.Group
	p        [2]*player
	now      int
	isResync bool // whether rows came otherwise than by changes
	swept    int
	fails    int
	lost     int // changes of the other site
}

func newPlay(t *testing.T, r *rand.Rand, l []api.Group, turn int) *play {
	t.Helper()
	y := &play{t: t, r: r, l: l}
	for i := range y.p {
		c := site.Conf{Site: 1 + i, Groups: l, Size: []int{1, 150, 2000, 1 << 20}[(turn+i)%4], Flight: 1 + (turn+i)%4, Wait: 1 + (turn+2*i)%5}
		d := disk.New(probe.Ample)
		y.p[i] = &player{Conf: c, d: d, s: open(t, c, d)}
	}
	return y
}

// other tells the other player.
func (y *play) other(p *player) *player { return y.p[2-p.Site] }

// isStruck tells whether an error is that of a power failure, after which a site is opened again.
func (y *play) isStruck(p *player, e api.Errno) bool {
	y.t.Helper()
	if e != api.ErrPower {
		return false
	}
	if p.d.On() {
		y.t.Fatal("ErrPower, and there is power")
	}
	y.recover(p)
	return true
}

// recover brings the power back.
func (y *play) recover(p *player) {
	y.t.Helper()
	before := p.s.Know()
	want(y.t, "Power", p.d.Power(), api.OK)
	p.s = open(y.t, p.Conf, p.d)
	for _, c := range p.s.Pending() { // what was struck may be there
		if c.Seq > len(p.written) {
			p.written = append(p.written, c)
		}
	}
	y.fails++
	y.lost += before[2-p.Site] - p.s.Know()[2-p.Site]
	y.check(p)
	y.reopen(p)
}

// reopen opens a site again, without a failure.
func (y *play) reopen(p *player) {
	y.t.Helper()
	told, seen, files := look(p.s), fmt.Sprint(p.s.Scan("", "", math.MaxInt)), probe.Files(p.d)
	s, e := site.Open(p.Conf, p.d)
	if y.isStruck(p, e) {
		return
	}
	if want(y.t, "Open", e, api.OK); look(s) != told || fmt.Sprint(s.Scan("", "", math.MaxInt)) != seen || fmt.Sprint(probe.Files(p.d)) != fmt.Sprint(files) { // P26.10
		y.t.Fatalf("opened again: %s, want %s", look(s), told)
	}
	p.s = s
}

// check wants that a site tells what it is to know, and to show.
func (y *play) check(p *player) {
	y.t.Helper()
	know, acked := p.s.Know(), p.s.Front().Acked
	mine, theirs := know[p.Site-1], know[2-p.Site]
	if mine != len(p.written) || theirs < p.held || theirs > len(y.other(p).written) { // P26.8 and W3
		y.t.Fatalf("site %d knows %v, held are %d, written %d and %d", p.Site, know, p.held, len(p.written), len(y.other(p).written))
	}
	if fmt.Sprint(p.s.Pending()) != fmt.Sprint(p.written[acked:]) { // P26.7 and W2
		y.t.Fatalf("site %d: pending are %v, want %v", p.Site, p.s.Pending(), p.written[acked:])
	}
	if acked > y.other(p).held {
		y.t.Fatalf("site %d was answered %d, told were %d", p.Site, acked, y.other(p).held)
	}
	if y.isResync {
		return
	}
	rows, e := model.State(y.l, slices.Concat(p.written, y.other(p).written[:theirs]))
	want(y.t, "State", e, api.OK)
	if got, views := p.s.Scan("", "", math.MaxInt), model.Scan(y.l, rows, "", "", math.MaxInt); fmt.Sprint(got) != fmt.Sprint(views) { // W1
		y.t.Fatalf("site %d shows %v, want %v", p.Site, got, views)
	}
}

// write writes.
func (y *play) write(p *player) {
	y.t.Helper()
	c, e := p.s.Write(y.now, writesOf(y.r, y.l))
	if y.isStruck(p, e) {
		return
	}
	want(y.t, "Write", e, api.OK)
	for _, other := range slices.Concat(p.written, y.other(p).written[:c.Vec[2-p.Site]]) { // W6
		if !stamp.Less(other.Stamp, c.Stamp) {
			y.t.Fatalf("%v behind %v", c, other)
		}
	}
	if p.written = append(p.written, c); c.Seq != len(p.written) || c.Vec != p.s.Know() {
		y.t.Fatalf("Write = %v, it knows %v", c, p.s.Know())
	}
}

// send sends, and wants that what is told of changes is of its own, as they were written.
func (y *play) send(p *player) {
	y.t.Helper()
	seen := fmt.Sprint(look(p.s), p.s.Scan("", "", math.MaxInt))
	frames, e := p.s.Send(y.now)
	if y.isStruck(p, e) {
		return
	}
	if want(y.t, "Send", e, api.OK); fmt.Sprint(look(p.s), p.s.Scan("", "", math.MaxInt)) != seen { // P26.9
		y.t.Fatalf("site %d: %s, want %s", p.Site, look(p.s), seen)
	}
	for _, b := range frames {
		m, e := wire.Decode(y.l, b)
		want(y.t, "Decode", e, api.OK)
		switch {
		case m.Kind == api.MsgAck && m.Site == p.Site && m.Ack == p.s.Know()[2-p.Site] && m.Own == len(p.written):
			p.held = max(p.held, m.Ack)
		case m.Kind == api.MsgData && m.Site == p.Site && fmt.Sprint(m.Change) == fmt.Sprint(p.written[m.Change.Seq-1]): // P26.7
		default:
			y.t.Fatalf("site %d told %v", p.Site, m)
		}
	}
	y.other(p).here = append(y.other(p).here, frames...)
}

// hear lets a site hear what is on its way to it: from any place, doubled, turned or not.
func (y *play) hear(p *player) {
	y.t.Helper()
	if len(p.here) == 0 {
		return
	}
	i := min(y.r.IntN(len(p.here)), y.r.IntN(len(p.here)))
	b := p.here[i]
	switch y.r.IntN(12) {
	case 0: // it stays on its way, too
	case 1:
		turned := slices.Clone(b)
		turned[y.r.IntN(len(b))] ^= 1 << y.r.IntN(8)
		wantUnchanged(y.t, p.s, p.d, func() {
			if out, e := p.s.Hear(turned); len(out) != 0 || e == api.OK { // W7
				y.t.Fatalf("Hear of a turned one = %q, %d", out, int(e))
			}
		})
	case 2, 3: // it is lost
		p.here = slices.Delete(p.here, i, i+1)
		return
	default:
		p.here = slices.Delete(p.here, i, i+1)
	}
	y.take(p, b)
}

// take lets a site hear bytes.
func (y *play) take(p *player, b []byte) {
	y.t.Helper()
	y.makeRoom(p)
	pending := len(p.s.Pending())
	told := look(p.s)
	out, e := p.s.Hear(b)
	if y.isStruck(p, e) {
		return
	}
	if e != api.OK && (e != api.ErrGap || look(p.s) != told || len(out) != 0) {
		y.t.Fatalf("Hear: %d, %s, want %s", int(e), look(p.s), told)
	}
	if len(p.s.Pending()) > pending { // P26.7
		y.t.Fatalf("%d are pending, behind %d", len(p.s.Pending()), pending)
	}
	y.other(p).here = append(y.other(p).here, out...)
}

// quietly does what changes nothing that is to be seen, known or pending.
func (y *play) quietly(p *player, call func() api.Errno) {
	y.t.Helper()
	seen := fmt.Sprint(p.s.Scan("", "", math.MaxInt), p.s.Know(), p.s.Pending())
	if e := call(); y.isStruck(p, e) {
		return
	} else if want(y.t, "a call", e, api.OK); fmt.Sprint(p.s.Scan("", "", math.MaxInt), p.s.Know(), p.s.Pending()) != seen { // P26.9
		y.t.Fatalf("site %d: %s, want %s", p.Site, look(p.s), seen)
	}
}

// makeRoom makes a checkpoint ahead of a disk's most files.
func (y *play) makeRoom(p *player) {
	y.t.Helper()
	if len(p.d.Names()) > 50 {
		y.quietly(p, p.s.Check)
	}
}

// act does something.
func (y *play) act(isResync bool) {
	y.t.Helper()
	p := y.p[y.r.IntN(2)]
	y.makeRoom(p)
	switch n := y.r.IntN(24); {
	case n < 4:
		y.write(p)
	case n < 8:
		y.send(p)
	case n < 15:
		y.hear(p)
	case n < 17:
		y.quietly(p, func() api.Errno {
			n, e := p.s.Collect()
			y.swept += n
			return e
		})
	case n == 17:
		y.quietly(p, p.s.Check)
	case n == 18:
		want(y.t, "Fail", p.d.Fail(keeps[y.r.IntN(len(keeps))]), api.OK)
		y.recover(p)
	case n == 19:
		want(y.t, "Arm", p.d.Arm(y.r.IntN(5), keeps[y.r.IntN(len(keeps))]), api.OK)
	case n == 20:
		y.reopen(p)
	case n == 21 && isResync:
		y.isResync = true
		b, e := p.s.Ask()
		want(y.t, "Ask", e, api.OK)
		y.other(p).here = append(y.other(p).here, b)
	default:
		y.now += y.r.IntN(3)
	}
	y.check(p)
}

// deliver delivers all that is on its way, until there is nothing, and tells how much that was.
func (y *play) deliver() int {
	y.t.Helper()
	count := 0
	for len(y.p[0].here)+len(y.p[1].here) > 0 {
		for _, p := range y.p {
			if len(p.here) > 0 {
				b := p.here[0]
				p.here = p.here[1:]
				y.take(p, b)
				count++
			}
		}
		if count > 10000 {
			y.t.Fatal("there is no end of it")
		}
	}
	return count
}

// calm lets everything work, for 4 rounds and one for each change that was not answered.
func (y *play) calm() {
	y.t.Helper()
	rounds := 4
	for _, p := range y.p {
		p.d.Fail(0) // no plan is there any more
		y.recover(p)
		rounds += len(p.s.Pending())
	}
	for range rounds {
		y.deliver()
		y.now += max(y.p[0].Wait, y.p[1].Wait)
		for _, p := range y.p {
			y.send(p)
			y.deliver()
		}
	}
	a, b := y.p[0].s, y.p[1].s
	if all := (api.Vec{len(y.p[0].written), len(y.p[1].written)}); a.Know() != all || b.Know() != all || len(a.Pending())+len(b.Pending()) != 0 { // W4
		y.t.Fatalf("behind a calm: %s and %s", look(a), look(b))
	}
	y.wantSameSeen()
}

// wantSameSeen wants that both show the same.
func (y *play) wantSameSeen() {
	y.t.Helper()
	a, b := y.p[0].s, y.p[1].s
	if fmt.Sprint(a.Scan("", "", math.MaxInt)) != fmt.Sprint(b.Scan("", "", math.MaxInt)) {
		y.t.Fatalf("%s and %s", look(a), look(b))
	}
}

func TestFollow(t *testing.T) { // P26.7 to P26.10, and W1 to W4, W6 and W7: whatever is done, and wherever the power fails
	r := rand.New(rand.NewPCG(263, 264))
	swept, fails, lost := 0, 0, 0
	for turn := range 60 {
		y := newPlay(t, r, probe.Schemas()[turn%len(probe.Schemas())], turn)
		for range 250 {
			y.act(false)
		}
		y.calm()
		swept, fails, lost = swept+y.swept, fails+y.fails, lost+y.lost
		for _, p := range y.p {
			if p.s.Front().Acked != len(p.written) {
				t.Fatalf("%s", look(p.s))
			}
			y.check(p)
		}
	}
	if swept < 80 || fails < 500 || lost < 25 {
		t.Errorf("only %d rows were swept, %d failures, %d changes lost", swept, fails, lost)
	}
}

func TestFollowResync(t *testing.T) { // P26.7 to P26.10 and W4, with resyncs among it, and W5 behind it
	r := rand.New(rand.NewPCG(265, 266))
	joined := 0
	for turn := range 60 {
		y := newPlay(t, r, probe.Schemas()[turn%len(probe.Schemas())], turn)
		for range 250 {
			y.act(true)
		}
		y.calm()
		if p := y.p[r.IntN(2)]; turn%4 > 0 { // so that one has traces that the other one let go
			_, e := p.s.Collect()
			want(t, "Collect", e, api.OK)
		}
		joined += y.resync(r.IntN(2))
		y.wantSameSeen()
	}
	if joined < 50 {
		t.Errorf("only %d leaves differed", joined)
	}
}

func TestResync(t *testing.T) { // P26.4, P26.5 and W5: from whatever states
	r := rand.New(rand.NewPCG(267, 268))
	for _, l := range probe.Schemas() {
		all := probe.States(l)
		for i, rows := range all {
			y := newPlay(t, r, l, i)
			for n, rows := range [][]api.Row{rows, all[(i*7+5)%len(all)]} {
				d := laid(t, l, rows, known(l, 1+n, 2, 5, 5)...)
				y.p[n].d, y.p[n].s = d, open(t, y.p[n].Conf, d)
			}
			y.isResync = true
			y.resync(i % 2)
			for _, p := range y.p {
				y.reopen(p)
				if p.s.Front().Acked != 2 || p.s.Know() != (api.Vec{5, 5}) || len(p.s.Pending()) != 3 {
					t.Fatalf("%s", look(p.s))
				}
			}
		}
	}
}

// resync lets a site ask, until both have what both had together, and tells how many leaves differed.
func (y *play) resync(first int) int {
	y.t.Helper()
	a, b := y.p[0].s, y.p[1].s
	both, e := model.Merge(y.l, a.Rows(), b.Rows())
	want(y.t, "Merge", e, api.OK)
	x, _ := merkle.New(y.l, a.Rows())
	z, _ := merkle.New(y.l, b.Rows())
	differing := len(merkle.Diff(x, z))
	if !vec.Covers(a.Know(), b.Low()) || !vec.Covers(b.Know(), a.Low()) {
		y.t.Fatalf("%s and %s", look(a), look(b))
	}
	m, e := y.p[first].s.Ask()
	want(y.t, "Ask", e, api.OK)
	y.p[1-first].here = append(y.p[1-first].here, m)
	if n := y.deliver(); differing > 0 && n < 2*differing || differing == 0 && n != 1 {
		y.t.Fatalf("%d packets, %d leaves differed", n, differing)
	}
	if !probe.SameRows(a.Rows(), both) || !probe.SameRows(b.Rows(), both) { // W5
		y.t.Fatalf("%s and %s, want %v", look(a), look(b), both)
	}
	return differing
}
