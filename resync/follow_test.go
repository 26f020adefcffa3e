package resync_test

import (
	"math/rand/v2"
	"slices"
	"testing"

	"gemel/api"
	"gemel/merkle"
	"gemel/model"
	"gemel/probe"
	"gemel/resync"
)

// pair is two sides, what is on its way to each, and how many messages each has sent.
type pair struct {
	sides [2]resync.Side
	to    [2][]api.Msg
	sent  [2]int
}

// send lets a side's messages go to the other one.
func (p *pair) send(i int, ms ...api.Msg) {
	p.sent[i] += len(ms)
	p.to[1-i] = append(p.to[1-i], ms...)
}

// hear lets a side hear the next message that is for it.
func (p *pair) hear(t *testing.T, i int) {
	t.Helper()
	s := &p.sides[i]
	m := p.to[i][0]
	p.to[i] = p.to[i][1:]
	out, rows, e := resync.Hear(*s, m)
	if e != api.OK {
		t.Fatalf("Hear(%s) of %s: %d", short(*s), short(m), int(e))
	}
	p.send(i, out...)
	if s.Rows, e = model.Merge(s.Groups, s.Rows, rows); e != api.OK {
		t.Fatalf("Merge: %d", int(e))
	}
}

// run lets a side ask, and both hear all that the other one sends, each in order, in whatever turns.
func (p *pair) run(t *testing.T, first int, r *rand.Rand) {
	t.Helper()
	m, e := resync.Ask(p.sides[first])
	if e != api.OK {
		t.Fatalf("Ask: %d", int(e))
	}
	for p.send(first, m); len(p.to[0])+len(p.to[1]) > 0; {
		if i := r.IntN(2); len(p.to[i]) > 0 {
			p.hear(t, i)
		} else {
			p.hear(t, 1-i)
		}
		if p.sent[0] > 273 || p.sent[1] > 273 { // P25.3
			t.Fatalf("%v messages", p.sent)
		}
	}
}

// pairOf tells two sides that know all that the other one let go.
func pairOf(l []api.Group, a, b []api.Row) *pair {
	p := &pair{}
	p.sides[0], p.sides[1] = side(l, 1, a), side(l, 2, b)
	return p
}

// merged tells two states put together.
func merged(t *testing.T, l []api.Group, a, b []api.Row) []api.Row {
	t.Helper()
	rows, e := model.Merge(l, a, b)
	if e != api.OK {
		t.Fatalf("Merge: %d", int(e))
	}
	return rows
}

func TestJoined(t *testing.T) { // P25.3 and P25.4
	r := rand.New(rand.NewPCG(251, 252))
	differed := 0
	for _, l := range probe.Schemas() {
		all := append(probe.States(l)[:10], spread(l, 3, 1), spread(l, 20, 1), spread(l, 20, 2), spread(l, 40, 5000))
		for i, a := range all {
			b := all[(i*5+r.IntN(3))%len(all)]
			want := merged(t, l, a, b)
			p := pairOf(l, a, b)
			p.run(t, r.IntN(2), r)
			for _, s := range p.sides {
				if !probe.SameRows(s.Rows, want) {
					t.Fatalf("%s, want %s", short(s.Rows), short(want))
				}
			}
			x, _ := merkle.New(l, a)
			y, _ := merkle.New(l, b)
			if n := len(merkle.Diff(x, y)); p.sent[0]+p.sent[1] < 2*n || n == 0 && p.sent[0]+p.sent[1] > 1 {
				t.Fatalf("%v messages, %d leaves differ", p.sent, n)
			} else {
				differed += n
			}
		}
	}
	if differed < 1000 {
		t.Errorf("only %d leaves differed", differed)
	}
}

func TestEnds(t *testing.T) { // P25.3: just so many, when all leaves differ
	l := groups()
	a, b := spread(l, 256, 1), spread(l, 256, 2)
	want := merged(t, l, a, b)
	for first := range 2 {
		for _, rows := range [][]api.Row{b, nil} {
			p := pairOf(l, a, rows)
			p.run(t, first, rand.New(rand.NewPCG(253, 254)))
			if p.sent != [2]int{273, 273} {
				t.Errorf("%v messages", p.sent)
			}
			if len(rows) > 0 && (!probe.SameRows(p.sides[0].Rows, want) || !probe.SameRows(p.sides[1].Rows, want)) {
				t.Errorf("%s and %s, want %s", short(p.sides[0].Rows), short(p.sides[1].Rows), short(want))
			}
		}
	}
}

func TestSame(t *testing.T) { // P25.6
	for _, l := range probe.Schemas() {
		for i, rows := range states(l) {
			p := pairOf(l, rows, rows)
			p.sides[1].Know, p.sides[1].Low = api.Vec{1, 1}, api.Vec{99, 99} // the rows alone are asked
			p.run(t, i%2, rand.New(rand.NewPCG(255, 256)))
			if p.sent[0]+p.sent[1] != 1 || !probe.SameRows(p.sides[0].Rows, rows) || !probe.SameRows(p.sides[1].Rows, rows) {
				t.Errorf("%v messages of the same rows", p.sent)
			}
		}
	}
}

func TestLate(t *testing.T) { // P25.5: where a side let go what the other one does not know of nothing is joined, at the other one all is
	for _, l := range probe.Schemas() {
		a, b := probe.States(l)[2], spread(l, 20, 1)
		want := merged(t, l, a, b)
		for late := range 2 {
			for first := range 2 {
				p := pairOf(l, a, b)
				p.sides[late].Low = api.Vec{3, 51} // the other one knows 50
				p.run(t, first, rand.New(rand.NewPCG(257, 258)))
				if own := [][]api.Row{a, b}[late]; !probe.SameRows(p.sides[late].Rows, own) || !probe.SameRows(p.sides[1-late].Rows, want) {
					t.Errorf("%s and %s", short(p.sides[late].Rows), short(p.sides[1-late].Rows))
				}
			}
		}
	}
}

// roomyMsg tells a message with spare room behind its lists, and a check whether all that memory stays as it is.
func roomyMsg(l []api.Group, m api.Msg) (api.Msg, func() bool) {
	path, allPath := probe.Roomy(m.Path, 7)
	sums, allSums := probe.Roomy(m.Sums, api.Digest{7})
	rows, stay := probe.RoomyRows(l, m.Rows)
	m.Path, m.Sums, m.Rows = path, sums, rows
	pathBefore, sumsBefore := slices.Clone(allPath), slices.Clone(allSums)
	return m, func() bool {
		return slices.Equal(allPath, pathBefore) && slices.Equal(allSums, sumsBefore) && stay()
	}
}

// wantApart wants that what was told shares no memory with what was handed in, nor with itself.
func wantApart(t *testing.T, s resync.Side, m api.Msg, out []api.Msg, joined []api.Row) {
	t.Helper()
	paths, sums, rows := [][]int{m.Path}, [][]api.Digest{m.Sums}, [][]api.Row{m.Rows, s.Rows, joined}
	for _, x := range out {
		paths, sums, rows = append(paths, x.Path), append(sums, x.Sums), append(rows, x.Rows)
	}
	var cells [][]api.Cell
	for _, l := range rows {
		for _, r := range l {
			cells = append(cells, r.Cells)
		}
	}
	if !probe.Apart(paths...) || !probe.Apart(sums...) || !probe.Apart(rows...) || !probe.Apart(cells...) {
		t.Fatalf("what is told of %s shares memory", short(m))
	}
}

func TestStays(t *testing.T) { // rules 4 and 8
	for _, l := range probe.Schemas() {
		other := side(l, 2, spread(l, 6, 1))
		ms := []api.Msg{ask(other, nil), tell(other, nil), ask(other, []int{5}), tell(other, []int{5})}
		for _, r := range other.Rows {
			ms = append(ms, leaf(other, pathOf(r.Key), true), ask(other, pathOf(r.Key)))
		}
		for _, own := range [][]api.Row{nil, spread(l, 8, 2)} {
			for _, m := range ms {
				given, all := probe.Roomy(slices.Clone(l), api.Group{Name: "spare", Policy: 9})
				rows, rowsStay := probe.RoomyRows(l, own)
				s := side(given, 1, rows)
				before := slices.Clone(all)
				m, msgStays := roomyMsg(l, m)
				first, e := resync.Ask(s)
				out, joined, e2 := resync.Hear(s, m)
				if e != api.OK || e2 != api.OK {
					t.Fatalf("Ask: %d, Hear: %d", int(e), int(e2))
				}
				wantApart(t, s, m, append(out, first), joined)
				if resync.Good(s) != api.OK || !slices.Equal(all, before) || !rowsStay() || !msgStays() {
					t.Fatal("what was handed in has changed")
				}
			}
		}
	}
}
