package store_test

import (
	"fmt"
	"math/rand/v2"
	"slices"
	"strconv"
	"strings"
	"testing"

	"gemel/api"
	"gemel/disk"
	"gemel/probe"
	"gemel/store"
)

// counter is the name of the note that every transaction of a player puts: it tells how many there were.
const counter = "counter"

// step is one call of a run.
type step struct {
	kind string
	tx   store.Tx // of a do
}

// player does steps to a store, and knows what it is to hold.
type player struct {
	t    *testing.T
	l    []api.Group
	d    *disk.Disk
	s    *store.Store
	size int
	past []plain // what is held behind 0 transactions, behind 1, and so on
	sure int     // how many transactions are sure
}

func newPlayer(t *testing.T, l []api.Group, size int) *player {
	t.Helper()
	p := &player{t: t, l: l, d: disk.New(probe.Ample), size: size, past: []plain{nothing()}}
	p.s = open(t, l, p.d, size, nothing())
	return p
}

// now tells what is held now.
func (p *player) now() plain { return p.past[len(p.past)-1] }

// counted tells a transaction with the next counter's note.
func (p *player) counted(tx store.Tx) store.Tx {
	notes := append(slices.Clone(tx.Notes), note(counter, fmt.Sprint(len(p.past))))
	slices.SortFunc(notes, func(a, b api.Note) int { return strings.Compare(a.Name, b.Name) })
	return store.Tx{Rows: tx.Rows, Notes: notes}
}

// do does a step, and tells whether there is still power.
func (p *player) do(s step) bool {
	p.t.Helper()
	e := api.OK
	switch s.kind {
	case "do":
		tx := p.counted(s.tx)
		behind := p.now().behind(tx)
		if e = p.s.Do(tx); e != api.OK {
			wantHeld(p.t, p.s, p.now()) // P18.8
		}
		p.past = append(p.past, behind) // it may be there behind a failure, or not
	case "sync":
		if e = p.s.Sync(); e == api.OK {
			p.sure = len(p.past) - 1
		}
	case "check":
		if e = p.s.Check(); e == api.OK {
			p.sure = len(p.past) - 1
		}
		wantHeld(p.t, p.s, p.now()) // P18.7
	case "open":
		var other *store.Store
		if other, e = store.Open(p.l, p.d, p.size); e == api.OK {
			p.s, p.sure = other, len(p.past)-1
		}
	}
	if e != api.OK && (e != api.ErrPower || p.d.On()) {
		p.t.Fatalf("%s: %d", s.kind, int(e))
	}
	if e == api.OK {
		wantHeld(p.t, p.s, p.now())
		if !p.s.On() || p.sure == len(p.past)-1 && !p.s.Sure() {
			p.t.Fatalf("%s: On %t, Sure %t", s.kind, p.s.On(), p.s.Sure())
		}
		if p.s.Sure() { // a full segment may have been synced
			p.sure = len(p.past) - 1
		}
	}
	return e == api.OK
}

// recover brings the power back, and wants that what is held is what a beginning of the transactions made, all that were sure among them.
func (p *player) recover() {
	p.t.Helper()
	if p.s.On() {
		p.t.Fatal("On behind a failure")
	}
	want(p.t, "Power", p.d.Power(), api.OK)
	s, e := store.Open(p.l, p.d, p.size)
	want(p.t, "Open", e, api.OK)
	count, _ := strconv.Atoi(s.Note(counter))
	if count < p.sure || count >= len(p.past) {
		p.t.Fatalf("%d transactions are there, of %d that were done, %d of them sure", count, len(p.past)-1, p.sure)
	}
	wantHeld(p.t, s, p.past[count]) // P18.5
	if !s.Sure() || !s.On() {
		p.t.Fatalf("behind Open: Sure %t, On %t", s.Sure(), s.On())
	}
	p.past, p.sure = p.past[:count+1], count
	files := probe.Files(p.d)
	p.s = open(p.t, p.l, p.d, p.size, p.now()) // P18.6
	wantFiles(p.t, p.d, files)
}

// goOn wants that a store whose power failed takes transactions again, which are there when they are synced.
func (p *player) goOn() {
	p.t.Helper()
	for _, s := range []step{{"do", ofNotes(note("more", "x"))}, {"do", ofRows(rowOf(p.l, "more", 9))}, {kind: "sync"}} {
		if !p.do(s) {
			p.t.Fatal("no power")
		}
	}
	want(p.t, "Fail", p.d.Fail(0), api.OK)
	count := len(p.past)
	if p.recover(); len(p.past) != count {
		p.t.Fatalf("%d transactions, want %d", len(p.past)-1, count-1)
	}
}

// runs tells runs of calls.
func runs(l []api.Group) [][]step {
	sync, check, reopen := step{kind: "sync"}, step{kind: "check"}, step{kind: "open"}
	var alone, synced, checked, mixed []step
	for i, tx := range steps(l) {
		d := step{"do", tx}
		alone = append(alone, d)
		synced = append(synced, d, d, sync)
		checked = append(checked, d, check)
		mixed = append(mixed, d, [...]step{sync, check, reopen, d}[i%4], d)
	}
	return [][]step{alone, synced, checked, mixed, {check, check, {"do", steps(l)[0]}, check, check, reopen, check, {"do", steps(l)[1]}, reopen, check}}
}

func TestFailureAnywhere(t *testing.T) { // P18.5 to P18.8: at every operation of a run, whatever is kept
	l := groups()
	for _, size := range []int{1, 40, 150, 1 << 20} {
		for _, run := range runs(l) {
			whole := newPlayer(t, l, size)
			before := whole.d.Ops()
			for _, s := range run {
				whole.do(s)
			}
			for n := range whole.d.Ops() - before {
				for _, keep := range keeps {
					p := newPlayer(t, l, size)
					want(t, "Arm", p.d.Arm(n, keep), api.OK)
					at := 0
					for at < len(run) && p.do(run[at]) {
						at++
					}
					if p.d.On() {
						t.Fatalf("size %d: no failure in operation %d", size, n)
					}
					p.recover()
					p.goOn()
				}
			}
		}
	}
}

func TestFailureBetween(t *testing.T) { // P18.5 to P18.7: behind every call of a run
	l := groups()
	for _, size := range []int{1, 40, 150, 1 << 20} {
		for _, run := range runs(l) {
			for n := range len(run) + 1 {
				for _, keep := range keeps {
					p := newPlayer(t, l, size)
					for _, s := range run[:n] {
						p.do(s)
					}
					want(t, "Fail", p.d.Fail(keep), api.OK)
					p.recover()
					p.goOn()
				}
			}
		}
	}
}

func TestFailureAgain(t *testing.T) { // P18.5 and P18.6: and once more in the opening behind it
	l := groups()
	for _, size := range []int{1, 150, 1 << 20} {
		for _, run := range runs(l) {
			for n := range 30 {
				for again := range 5 {
					p := newPlayer(t, l, size)
					want(t, "Arm", p.d.Arm(n, 30), api.OK)
					at := 0
					for at < len(run) && p.do(run[at]) {
						at++
					}
					if p.d.On() {
						continue
					}
					p.d.Power()
					p.d.Arm(again, 0)
					if _, e := store.Open(l, p.d, size); e != api.OK && e != api.ErrPower || (e == api.OK) != p.d.On() {
						t.Fatalf("Open: %d", int(e))
					}
					p.d.Fail(0) // so that there is no plan any more
					p.recover()
					p.goOn()
				}
			}
		}
	}
}

func TestChecksChangeNothing(t *testing.T) { // P18.7: what is to be seen, with checkpoints and without
	for _, l := range probe.Schemas() {
		for _, size := range []int{1, 100, 1 << 20} {
			with, without := newPlayer(t, l, size), newPlayer(t, l, size)
			for i := range 40 {
				s := step{"do", steps(l)[i*3%7]}
				with.do(s)
				without.do(s)
				with.do(step{kind: "check"})
				if i%4 == 3 {
					with.do(step{kind: "open"})
				}
				if !sameTx(held(with.s), held(without.s)) || with.s.Len() != without.s.Len() {
					t.Fatalf("%s with checkpoints, %s without", short(held(with.s)), short(held(without.s)))
				}
			}
			without.do(step{kind: "sync"})
			for _, p := range []*player{with, without} {
				p.d.Fail(0)
				p.recover()
			}
			if !sameTx(held(with.s), held(without.s)) {
				t.Fatalf("%s with checkpoints, %s without", short(held(with.s)), short(held(without.s)))
			}
		}
	}
}

// chosen tells any transaction: of few rows and notes, some of which go.
func chosen(r *rand.Rand, l []api.Group) store.Tx {
	var tx store.Tx
	for i, key := range []string{"a", "b", "c", "cc", "d"} {
		switch r.IntN(4) {
		case 0:
			tx.Rows = append(tx.Rows, rowOf(l, key, r.IntN(50)))
		case 1:
			tx.Rows = append(tx.Rows, bare(l, key))
		case 2:
			tx.Notes = append(tx.Notes, note(key, strings.Repeat("x", i*r.IntN(30))))
		}
	}
	return tx
}

func TestAnything(t *testing.T) { // P18.3 to P18.8: whatever is done, and wherever the power fails
	r := rand.New(rand.NewPCG(181, 182))
	for turn := range 70 {
		l := probe.Schemas()[turn%len(probe.Schemas())]
		p := newPlayer(t, l, []int{1, 50, 200, 1000, 1 << 20}[turn%5])
		for range 150 {
			switch r.IntN(14) {
			case 0:
				p.do(step{kind: "sync"})
			case 1, 2:
				p.do(step{kind: "check"})
			case 3:
				p.do(step{kind: "open"})
			case 4:
				p.d.Fail(keeps[r.IntN(len(keeps))])
			case 5, 6:
				p.d.Arm(r.IntN(12), keeps[r.IntN(len(keeps))])
			default:
				if len(p.d.Names()) > 55 { // ahead of the disk's most files
					p.do(step{kind: "check"})
				} else {
					p.do(step{"do", chosen(r, l)})
				}
			}
			if !p.d.On() {
				p.recover()
			}
		}
	}
}

func TestStoresApart(t *testing.T) { // rule 5: what a store tells hangs on what was done to it alone
	l := groups()
	a, b := open(t, l, disk.New(probe.Ample), 100, nothing()), open(t, l, disk.New(probe.Ample), 100, nothing())
	for _, tx := range steps(l) {
		want(t, "Do", a.Do(tx), api.OK)
	}
	wantHeld(t, b, nothing())
	want(t, "Do", b.Do(some(l)), api.OK)
	wantHeld(t, a, nothing().behind(steps(l)...))
	wantHeld(t, b, nothing().behind(some(l)))
}
