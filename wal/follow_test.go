package wal_test

import (
	"fmt"
	"math"
	"math/rand/v2"
	"slices"
	"strings"
	"testing"

	"gemel/api"
	"gemel/disk"
	"gemel/frame"
	"gemel/probe"
	"gemel/wal"
)

// keeps are those of failures.
var keeps = []int{-1, 0, 1, 5, 6, 7, 9, 10, 11, 16, 30, 1 << 20}

// step is one call of a run.
type step struct {
	kind string
	n    int // of an append how long the record is, of a retire the number named, of an arm and a fail the operations and what is kept
	keep int
}

// player does steps to a log, and knows what it is to be.
type player struct {
	t       *testing.T
	d       *disk.Disk
	l       *wal.Log
	size    int
	all     []string // the records of all numbers from 1 on, those that are retired too
	begins  []int
	sure    int
	retired int // the greatest number that a retire named
}

func newPlayer(t *testing.T, size int) *player {
	t.Helper()
	p := &player{t: t, d: disk.New(probe.Ample), size: size, begins: []int{1}}
	p.open()
	return p
}

// open opens the log, which is to have all records that were not retired.
func (p *player) open() {
	p.t.Helper()
	p.l = open(p.t, p.d, p.size, p.begins[0], p.all[p.begins[0]-1:]...)
	p.sure = len(p.all)
	p.look("open")
}

// look wants that the log and its segments are as they are to be.
func (p *player) look(what string) {
	p.t.Helper()
	wantNumbers(p.t, p.l, p.begins[0], len(p.all)+1, p.sure, true)
	want := map[string]string{}
	for i, n := range p.begins {
		want[nameOf(n)] = framed(p.all[n-1 : p.end(i)]...)
	}
	wantFiles(p.t, p.d, want)
}

// end tells the number of a segment's last record.
func (p *player) end(i int) int {
	if i == len(p.begins)-1 {
		return len(p.all)
	}
	return p.begins[i+1] - 1
}

// record tells the next record, of this length at least.
func (p *player) record(size int) string {
	rec := fmt.Sprint(len(p.all) + 1)
	if size == 0 {
		return ""
	}
	return rec + strings.Repeat("-", max(0, size-len(rec)))
}

// do does a step, and tells whether there is still power.
func (p *player) do(s step) bool {
	p.t.Helper()
	e := api.OK
	switch s.kind {
	case "append":
		rec := p.record(s.n)
		n := 0
		if n, e = p.l.Append([]byte(rec)); e == api.OK {
			p.appended(rec, n)
		} else {
			p.all = append(p.all, rec) // it may be there, or not
		}
	case "sync":
		if e = p.l.Sync(); e == api.OK {
			p.sure = len(p.all)
		}
	case "retire":
		p.retired = max(p.retired, s.n)
		if e = p.l.Retire(s.n); e == api.OK {
			for len(p.begins) > 1 && p.begins[1] <= s.n {
				p.begins = p.begins[1:]
			}
		}
	case "open":
		l, records, got := wal.Open(p.d, p.size)
		if e = got; e == api.OK {
			p.l, p.sure = l, len(p.all)
			if !slices.Equal(texts(records), p.all[p.begins[0]-1:]) {
				p.t.Fatalf("Open tells %.200q", records)
			}
		}
	case "arm":
		p.d.Arm(s.n, s.keep)
	case "fail":
		p.d.Fail(s.keep)
		return false
	}
	if e != api.OK && (e != api.ErrPower || p.d.On()) {
		p.t.Fatalf("%s %d: %d", s.kind, s.n, int(e))
	}
	if e == api.OK {
		p.look(s.kind)
	}
	return e == api.OK
}

// appended counts a record that was appended.
func (p *player) appended(rec string, n int) {
	p.t.Helper()
	last := p.begins[len(p.begins)-1]
	held := p.all[last-1:]
	if len(held) > 0 && len(framed(held...))+len(framed(rec)) > p.size {
		p.sure = len(p.all)
		p.begins = append(p.begins, n)
	}
	p.all = append(p.all, rec)
	if n != len(p.all) {
		p.t.Fatalf("record %d is told to be %d", len(p.all), n)
	}
}

// recover brings the power back, and wants that Open tells what is to be left; p.all has all records that were appended, and the one in which the power failed.
func (p *player) recover() {
	p.t.Helper()
	first, sure := p.l.First(), p.l.Sure()
	if p.l.On() || sure < p.sure || sure > len(p.all) || first < p.begins[0] || first > max(p.begins[0], p.retired) {
		p.t.Fatalf("behind a failure: On %t, First %d, Sure %d, where %d are sure", p.l.On(), first, sure, p.sure)
	}
	wantOK(p.t, "Power", p.d.Power())
	left := p.left()
	l, records, e := wal.Open(p.d, p.size)
	if e != api.OK || !slices.Equal(texts(records), left) {
		p.t.Fatalf("Open: %d, records %.200q, want %.200q", int(e), records, left)
	}
	next := first + len(left)
	wantNumbers(p.t, l, first, next, next-1, true)
	if next-1 < sure { // P16.5
		p.t.Fatalf("Next %d, where %d were sure", next, sure)
	}
	if next-1 > len(p.all) || !slices.Equal(left, p.all[first-1:next-1]) { // P16.5, P16.6 and P16.8
		p.t.Fatalf("records %.200q, of %.200q", left, p.all)
	}
	p.all, p.begins = p.all[:next-1], nil
	for _, name := range p.d.Names() {
		p.begins = append(p.begins, wal.Number(name))
	}
	p.open() // P16.7
}

// left tells the whole frames of the segments' files.
func (p *player) left() []string {
	var out []string
	for _, name := range p.d.Names() {
		b, _ := p.d.Read(name)
		bodies, _, _ := frame.Rows(b)
		out = append(out, texts(bodies)...)
	}
	return out
}

// goOn wants that a log whose power failed takes records again, which are sure when they are synced.
func (p *player) goOn() {
	p.t.Helper()
	for _, s := range []step{{"append", 4, 0}, {"append", 0, 0}, {"sync", 0, 0}} {
		if !p.do(s) {
			p.t.Fatal("no power")
		}
	}
	p.do(step{"fail", 0, 0})
	count := len(p.all)
	if p.recover(); len(p.all) != count {
		p.t.Fatalf("%d records, want %d", len(p.all), count)
	}
}

// runs tells runs of calls, each with a segment's size.
func runs() map[int][][]step {
	many := func(n, size int) []step { return slices.Repeat([]step{{"append", size, 0}}, n) }
	syncs := []step{{"append", 3, 0}, {"sync", 0, 0}, {"append", 4, 0}, {"append", 0, 0}, {"sync", 0, 0}, {"sync", 0, 0}, {"append", 90, 0}, {"append", 1, 0}}
	retires := slices.Concat(many(5, 4), []step{{"retire", 4, 0}}, many(3, 9), []step{{"sync", 0, 0}, {"retire", 99, 0}}, many(3, 2), []step{{"retire", 5, 0}})
	opens := slices.Concat(many(2, 4), []step{{"open", 0, 0}}, many(3, 5), []step{{"open", 0, 0}, {"sync", 0, 0}, {"append", 40, 0}, {"open", 0, 0}})
	out := map[int][][]step{}
	for _, size := range []int{1, 10, 20, 21, 64, 1 << 20} {
		out[size] = [][]step{many(6, 4), syncs, retires, opens}
	}
	return out
}

func TestFailureAnywhere(t *testing.T) { // P16.5 to P16.8: at every operation of a run, whatever is kept
	for size, list := range runs() {
		for _, run := range list {
			whole := newPlayer(t, size)
			before := whole.d.Ops()
			for _, s := range run {
				whole.do(s)
			}
			for n := range whole.d.Ops() - before {
				for _, keep := range keeps {
					p := newPlayer(t, size)
					p.do(step{"arm", n, keep})
					at := 0
					for at < len(run) && p.do(run[at]) {
						at++
					}
					if p.d.On() {
						t.Fatalf("size %d: no failure in operation %d", size, n)
					}
					if got := p.d.Ops(); got != before+n { // the one in which the power fails is none
						t.Fatalf("size %d: a failure behind %d operations, and Ops is %d", size, before+n, got)
					}
					p.recover()
					p.goOn()
				}
			}
		}
	}
}

func TestFailureBetween(t *testing.T) { // P16.5 to P16.8: behind every call of a run
	for size, list := range runs() {
		for _, run := range list {
			for n := range len(run) + 1 {
				for _, keep := range keeps {
					p := newPlayer(t, size)
					for _, s := range run[:n] {
						p.do(s)
					}
					p.do(step{"fail", 0, keep})
					p.recover()
					p.goOn()
				}
			}
		}
	}
}

// chosen tells any step of a log that has so many records.
func chosen(r *rand.Rand, count int) step {
	switch r.IntN(24) {
	case 0, 1:
		return step{"sync", 0, 0}
	case 2:
		return step{"retire", count - r.IntN(20), 0}
	case 3:
		return step{"open", 0, 0}
	case 4:
		return step{"fail", 0, keeps[r.IntN(len(keeps))]}
	case 5:
		return step{"arm", r.IntN(12), keeps[r.IntN(len(keeps))]}
	}
	return step{"append", []int{0, 1, 2, 3, 4, 9, 20, 70}[r.IntN(8)], 0}
}

func TestAnything(t *testing.T) { // P16.2 to P16.8: whatever is done, and wherever the power fails
	r := rand.New(rand.NewPCG(161, 162))
	for turn := range 60 {
		p := newPlayer(t, []int{1, 12, 20, 50, 200, 1 << 20}[turn%6])
		for range 400 {
			if len(p.begins) > 50 { // ahead of the disk's most files
				p.do(step{"retire", math.MaxInt, 0})
			} else {
				p.do(chosen(r, len(p.all)))
			}
			if !p.d.On() {
				p.recover()
			}
		}
	}
}

func TestHandedInStays(t *testing.T) { // rules 4 and 8
	for _, size := range []int{1, 1000} {
		d := disk.New(probe.Ample)
		l := open(t, d, size, 1)
		var all []string
		for i, rec := range []string{"", "x", "some bytes", strings.Repeat("x", 5000)} {
			b, whole := probe.Roomy([]byte(rec), '!')
			before := slices.Clone(whole)
			if n, e := l.Append(b); n != i+1 || e != api.OK {
				t.Fatalf("Append: %d, %d", n, int(e))
			}
			wantOK(t, "Sync", l.Sync())
			if !slices.Equal(whole, before) {
				t.Errorf("Append has changed what it was given: %.40q", whole)
			}
			for i := range whole {
				whole[i] = '?'
			}
			all = append(all, rec)
			open(t, d, size, 1, all...)
		}
	}
}

func TestHandedOutIsNew(t *testing.T) { // rules 4 and 8
	for _, size := range []int{1, 30, 1000} {
		d := disk.New(probe.Ample)
		l := open(t, d, size, 1)
		want := []string{"a", "", "some bytes", strings.Repeat("x", 5000), "b"}
		for i, rec := range want {
			wantAppend(t, l, rec, i+1)
		}
		d.Append(nameOf(5), []byte("torn"))
		_, one, _ := wal.Open(d, size)
		other, two, _ := wal.Open(d, size)
		if !probe.Apart(one, two) || !probe.Apart(append(slices.Clone(one), two...)...) {
			t.Error("lists that were handed out share memory")
		}
		for _, list := range [][][]byte{one, two} {
			for _, b := range list {
				if strings.Trim(string(b[len(b):cap(b)]), "\x00") != "" {
					t.Errorf("spare room of %.40q has %.40q", b, b[len(b):cap(b)])
				}
				b = b[:cap(b)]
				for i := range b {
					b[i] = '?'
				}
			}
			list = list[:cap(list)]
			for i := range list {
				list[i] = []byte("spoilt")
			}
		}
		wantAppend(t, other, "behind", 6)
		wantOK(t, "Sync", other.Sync())
		open(t, d, size, 1, append(slices.Clone(want), "behind")...)
	}
}
