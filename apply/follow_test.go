package apply_test

import (
	"fmt"
	"maps"
	"math/rand/v2"
	"slices"
	"strings"
	"testing"

	"gemel/api"
	"gemel/apply"
	"gemel/change"
	"gemel/disk"
	"gemel/probe"
	"gemel/store"
	"gemel/vec"
)

// keeps is what failures keep: nothing, a part of a frame, all.
var keeps = []int{-1, 0, 1, 9, 40, 120, 1 << 20}

// player is a site's store, of which it is known what it is to hold.
type player struct {
	t    *testing.T
	l    []api.Group
	site int
	size int
	d    *disk.Disk
	s    *store.Store
	own  []api.Change // those that were told, and are there
	came []api.Change // those of the other site that are there
}

func newPlayer(t *testing.T, l []api.Group, site, size int) *player {
	t.Helper()
	p := &player{t: t, l: l, site: site, size: size, d: disk.New(probe.Ample)}
	p.s = open(t, l, p.d, size)
	return p
}

// know tells how many changes are to be known.
func (p *player) know() api.Vec {
	var v api.Vec
	v[p.site-1], v[2-p.site] = len(p.own), len(p.came)
	return v
}

// time tells what the last stamp is to be.
func (p *player) time() api.Stamp {
	var last api.Stamp
	for _, c := range slices.Concat(p.own, p.came) {
		if c.Stamp.N > last.N || c.Stamp.N == last.N && c.Stamp.Site > last.Site {
			last = c.Stamp
		}
	}
	return last
}

// next tells what change is written next.
func (p *player) next(now int, w []api.Write) api.Change {
	know := p.know()
	know[p.site-1]++
	return api.Change{Site: p.site, Seq: len(p.own) + 1, Stamp: api.Stamp{N: max(p.time().N+1, now), Site: p.site}, Vec: know, Writes: change.Canon(w)}
}

// check wants that what is there is what the changes make, and no notes but of own ones, of how much is known and of when.
func (p *player) check() {
	p.t.Helper()
	if rows := state(p.t, p.l, slices.Concat(p.own, p.came)); !slices.EqualFunc(rowsOf(p.s), rows, sameRow) {
		p.t.Fatalf("rows %v, want %v", rowsOf(p.s), rows)
	}
	var notes []api.Note
	if known := p.know(); known != (api.Vec{}) {
		notes = append(notes, knowNote(known), timeNote(p.time()))
	}
	for _, c := range p.own {
		notes = append(notes, ownNote(p.l, c))
	}
	slices.SortFunc(notes, func(a, b api.Note) int { return strings.Compare(a.Name, b.Name) })
	if !slices.Equal(p.s.Notes(""), notes) {
		p.t.Fatalf("notes %q, want %q", p.s.Notes(""), notes)
	}
}

// local writes, and tells whether there is still power.
func (p *player) local(now int, w []api.Write) bool {
	p.t.Helper()
	want := p.next(now, w)
	c, e := apply.Local(p.l, p.s, p.site, now, w)
	if e == api.ErrPower && !p.d.On() {
		return false
	}
	if !sameChange(c, want) || e != api.OK || !p.s.Sure() {
		p.t.Fatalf("Local = %v, %d, want %v", c, int(e), want)
	}
	p.own = append(p.own, c)
	p.check()
	return true
}

// remote puts in the next change of the other site, and tells whether there is still power.
func (p *player) remote(c api.Change) bool {
	p.t.Helper()
	ok, e := apply.Remote(p.l, p.s, p.site, c)
	if e == api.ErrPower && !p.d.On() {
		return false
	}
	if !ok || e != api.OK {
		p.t.Fatalf("Remote(%v) = %t, %d", c, ok, int(e))
	}
	p.came = append(p.came, c)
	p.check()
	return true
}

// refused wants that no change of the other site goes in again, none behind a gap, and no own one.
func (p *player) refused(others []api.Change) {
	p.t.Helper()
	for i, c := range others {
		e := api.OK
		if i == len(p.came) {
			continue
		} else if i > len(p.came) {
			e = api.ErrGap
		}
		wantPassed(p.t, p.l, p.s, p.d, p.site, c, e) // P22.6
	}
	for _, c := range append(p.own, p.next(0, []api.Write{put("k", 0, "x")})) {
		wantPassed(p.t, p.l, p.s, p.d, p.site, c, api.ErrOrigin) // P22.8
	}
}

// writes tells any writes, of few places.
func writes(r *rand.Rand, l []api.Group) []api.Write {
	var out []api.Write
	for range 1 + r.IntN(api.MaxWrites) {
		w := put(string(rune('k'+r.IntN(4))), r.IntN(len(l)), fmt.Sprint(r.IntN(50)))
		if r.IntN(3) == 0 {
			w = gone(w.Key, w.Group)
		}
		out = append(out, w)
	}
	return out
}

func TestOneState(t *testing.T) { // P22.6 to P22.8: in whatever turns
	r := rand.New(rand.NewPCG(221, 222))
	for turn := range 60 {
		l := probe.Schemas()[turn%len(probe.Schemas())]
		a, b := newPlayer(t, l, 1, 100+turn), newPlayer(t, l, 2, 1000)
		sites := [][2]*player{{a, b}, {b, a}}
		for range 40 {
			pair := sites[r.IntN(2)]
			p, other := pair[0], pair[1]
			switch r.IntN(5) {
			case 0, 1:
				p.local(r.IntN(40), writes(r, l))
			case 2, 3:
				if len(p.came) < len(other.own) {
					p.remote(other.own[len(p.came)])
				}
			default:
				p.refused(other.own)
			}
		}
		for len(a.came) < len(b.own) {
			a.remote(b.own[len(a.came)])
		}
		for len(b.came) < len(a.own) {
			b.remote(a.own[len(b.came)])
		}
		if apply.Know(a.s) != apply.Know(b.s) || !slices.EqualFunc(rowsOf(a.s), rowsOf(b.s), sameRow) {
			t.Fatalf("Know %v and %v, rows %v and %v", apply.Know(a.s), apply.Know(b.s), rowsOf(a.s), rowsOf(b.s))
		}
		a.refused(b.own)
		b.refused(a.own)
	}
}

// step is one call of a run.
type step struct {
	kind   string
	writes []api.Write // of an own change
	change api.Change  // of the other site's
}

// run tells calls at site 1: own changes and the other site's, and some openings, syncs and checkpoints.
func run(l []api.Group) []step {
	var out []step
	for i, c := range probe.Changes(l) {
		if c.Site == 2 {
			c.Seq, c.Vec = 1+i/2, api.Vec{i / 2, 1 + i/2}
			out = append(out, step{kind: "remote", change: c})
		} else {
			out = append(out, step{kind: "local", writes: c.Writes})
		}
		switch i {
		case 1, 4:
			out = append(out, step{kind: "check"})
		case 2:
			out = append(out, step{kind: "open"})
		case 5:
			out = append(out, step{kind: "sync"}, out[1], step{kind: "local", writes: c.Writes}) // the second one is old
		}
	}
	return out
}

// do does a step, and tells whether there is still power.
func (p *player) do(i int, x step) bool {
	p.t.Helper()
	e := api.OK
	switch x.kind {
	case "local":
		return p.local(3*i, x.writes)
	case "remote":
		if x.change.Seq <= len(p.came) {
			wantPassed(p.t, p.l, p.s, p.d, p.site, x.change, api.OK)
			return true
		}
		return p.remote(x.change)
	case "sync":
		e = p.s.Sync()
	case "check":
		e = p.s.Check()
	case "open":
		var s *store.Store
		if s, e = store.Open(p.l, p.d, p.size); e == api.OK {
			p.s = s
		}
	}
	if e != api.OK && (e != api.ErrPower || p.d.On()) {
		p.t.Fatalf("%s: %d", x.kind, int(e))
	}
	if e == api.OK {
		p.check()
	}
	return e == api.OK
}

// recover brings the power back, when the step at i was struck, and tells how many changes of the other site are lost.
func (p *player) recover(i int, x step) int {
	p.t.Helper()
	want(p.t, "Power", p.d.Power(), api.OK)
	p.s = open(p.t, p.l, p.d, p.size)
	known, told := apply.Know(p.s), p.know()
	switch struck := told; x.kind { // what was struck may be there
	case "local":
		if struck[p.site-1]++; known == struck {
			p.own = append(p.own, p.next(3*i, x.writes))
		}
	case "remote":
		if struck[2-p.site]++; known == struck {
			p.came = append(p.came, x.change)
		}
	}
	if known[p.site-1] != len(p.own) || known[2-p.site] > len(p.came) {
		p.t.Fatalf("Know %v, want at most %v, and all own ones", known, p.know())
	}
	lost := len(p.came) - known[2-p.site]
	p.came = p.came[:known[2-p.site]]
	p.check()
	files := probe.Files(p.d)
	p.s = open(p.t, p.l, p.d, p.size)
	if !maps.Equal(probe.Files(p.d), files) {
		p.t.Fatal("opened again it is something else")
	}
	p.check()
	return lost
}

// others tells the changes of the other site that a run has, in order, each once.
func others(run []step) []api.Change {
	var out []api.Change
	for _, x := range run {
		if x.kind == "remote" && x.change.Seq == len(out)+1 {
			out = append(out, x.change)
		}
	}
	return out
}

// goOn wants that a store takes what is lost again, and own changes, which are sure.
func (p *player) goOn(all []api.Change) {
	p.t.Helper()
	p.refused(all)
	for _, c := range all[len(p.came):] {
		p.remote(c)
	}
	p.local(100, []api.Write{put("k", 0, "last")})
	own, came := len(p.own), len(p.came)
	want(p.t, "Fail", p.d.Fail(0), api.OK)
	if p.recover(0, step{}); len(p.own) != own || len(p.came) != came || !vec.Covers(apply.Know(p.s), p.own[own-1].Vec) {
		p.t.Fatalf("Know %v", apply.Know(p.s))
	}
}

func TestFailureAnywhere(t *testing.T) { // P22.9: at every operation of a run, whatever is kept
	for _, l := range [][]api.Group{groups(), probe.Schemas()[5]} {
		steps := run(l)
		for _, size := range []int{1, 150, 1 << 20} {
			whole := newPlayer(t, l, 1, size)
			before := whole.d.Ops()
			for i, x := range steps {
				whole.do(i, x)
			}
			for n := range whole.d.Ops() - before {
				for _, keep := range keeps {
					p := newPlayer(t, l, 1, size)
					want(t, "Arm", p.d.Arm(n, keep), api.OK)
					i := 0
					for p.do(i, steps[i]) {
						i++
					}
					p.recover(i, steps[i])
					p.goOn(others(steps))
				}
			}
		}
	}
}

func TestFailureBetween(t *testing.T) { // P22.9: behind every call of a run; what is lost is the end of what came alone
	l := groups()
	steps := run(l)
	for _, size := range []int{1, 150, 1 << 20} {
		for count := range len(steps) + 1 {
			for _, keep := range keeps {
				p := newPlayer(t, l, 1, size)
				for i, x := range steps[:count] {
					p.do(i, x)
				}
				sure := p.s.Sure()
				want(t, "Fail", p.d.Fail(keep), api.OK)
				if lost := p.recover(0, step{}); lost > 0 && (sure || keep == 1<<20) {
					t.Fatalf("%d changes are lost", lost)
				}
				p.goOn(others(steps))
			}
		}
	}
}

func TestAnything(t *testing.T) { // P22.6 to P22.9: two sites, whatever is done, and wherever the power fails
	r := rand.New(rand.NewPCG(223, 224))
	for turn := range 40 {
		l := probe.Schemas()[turn%len(probe.Schemas())]
		a, b := newPlayer(t, l, 1, []int{1, 80, 400, 1 << 20}[turn%4]), newPlayer(t, l, 2, 300)
		sites := [][2]*player{{a, b}, {b, a}}
		for i := range 120 {
			pair := sites[r.IntN(2)]
			p, other := pair[0], pair[1]
			x := step{kind: []string{"local", "local", "remote", "remote", "remote", "sync", "check", "open", "fail", "arm"}[r.IntN(10)]}
			switch x.kind {
			case "fail":
				want(t, "Fail", p.d.Fail(keeps[r.IntN(len(keeps))]), api.OK)
			case "arm":
				want(t, "Arm", p.d.Arm(r.IntN(6), keeps[r.IntN(len(keeps))]), api.OK)
			case "remote":
				if len(other.own) == 0 {
					continue
				}
				x.change = other.own[min(len(p.came), len(other.own)-1)]
			case "local":
				x.writes = writes(r, l)
			}
			if len(p.d.Names()) > 50 { // ahead of the disk's most files
				x.kind = "check"
			}
			if x.kind == "fail" || x.kind != "arm" && !p.do(i, x) {
				p.recover(i, x)
			}
		}
		for _, pair := range sites { // without a plan that may be there
			pair[0].d.Fail(0)
			pair[0].recover(0, step{})
		}
		for _, pair := range sites {
			for _, c := range pair[1].own[len(pair[0].came):] {
				pair[0].remote(c)
			}
		}
		if apply.Know(a.s) != apply.Know(b.s) || !slices.EqualFunc(rowsOf(a.s), rowsOf(b.s), sameRow) {
			t.Fatalf("Know %v and %v, rows %v and %v", apply.Know(a.s), apply.Know(b.s), rowsOf(a.s), rowsOf(b.s))
		}
	}
}
