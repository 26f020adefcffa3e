package frontier_test

import (
	"math"
	"math/rand/v2"
	"slices"
	"testing"

	"gemel/api"
	"gemel/change"
	"gemel/frontier"
	"gemel/model"
	"gemel/stamp"
	"gemel/vec"
)

// answer is how many changes a site holds of the other one's, and how many it has written by then.
type answer struct{ ack, own int }

// learner is a front with all that it was told.
type learner struct {
	frontier.Front
	know api.Vec
	told []answer
}

// wantHonest wants that a front behind a step may be one behind that.
func (x *learner) wantHonest(t *testing.T, next frontier.Front) {
	t.Helper()
	acked, honest := 0, next.Stable == 0
	for _, a := range x.told {
		acked = max(acked, a.ack)
		honest = honest || a.ack == next.Stable && a.own <= of(3-next.Site, x.know)
	}
	if next.Stable < x.Stable || next.Stable > next.Acked || next.Acked != acked || next.Site != x.Site { // P23.5
		t.Fatalf("%v behind %v, told %v", next, x.Front, x.told)
	}
	if !honest { // P23.6
		t.Fatalf("%v, told %v, knows %v", next, x.told, x.know)
	}
	x.Front = next
}

// step lets a front learn something, or more come.
func (x *learner) step(t *testing.T, r *rand.Rand) {
	t.Helper()
	switch r.IntN(4) {
	case 0:
		x.know[r.IntN(2)] += r.IntN(3)
		f, e := frontier.Settle(x.Front, x.know)
		if e != api.OK || of(3-x.Site, x.know) >= x.Until && (f.Stable < x.Wait || f.Until != 0) {
			t.Fatalf("Settle(%v, %v) = %v, %d", x.Front, x.know, f, int(e))
		}
		x.wantHonest(t, f)
	case 1:
		x.know[r.IntN(2)] += r.IntN(2) // without being told
	default:
		a := answer{r.IntN(of(x.Site, x.know) + 1), r.IntN(of(3-x.Site, x.know) + 4)}
		f, e := frontier.Learn(x.Front, x.know, a.ack, a.own)
		if e != api.OK || of(3-x.Site, x.know) >= a.own && f.Stable < a.ack {
			t.Fatalf("Learn(%v, %v, %d, %d) = %v, %d", x.Front, x.know, a.ack, a.own, f, int(e))
		}
		x.told = append(x.told, a)
		x.wantHonest(t, f)
	}
}

func TestGrowsAndHonest(t *testing.T) { // P23.5 and P23.6
	r := rand.New(rand.NewPCG(233, 234))
	stable := 0
	for turn := range 500 {
		f, _ := frontier.New(1 + turn%2)
		x := &learner{Front: f}
		for range 60 {
			x.step(t, r)
		}
		stable += x.Stable
	}
	if stable < 1000 {
		t.Errorf("only %d were stable", stable)
	}
}

func TestAnyOrder(t *testing.T) { // P23.5: what is learnt in whatever order
	answers := []answer{{3, 2}, {5, 9}, {1, 0}, {7, 8}}
	var orders func(left, order []answer)
	orders = func(left, order []answer) {
		for i, a := range left {
			orders(slices.Concat(left[:i], left[i+1:]), append(slices.Clone(order), a))
		}
		if len(left) > 0 {
			return
		}
		for theirs, stable := range map[int]int{0: 1, 1: 1, 2: 3, 7: 3, 8: 7, 9: 7, 10: 7} { // those that have come
			f, _ := frontier.New(api.SiteB)
			for _, a := range order {
				f, _ = frontier.Learn(f, api.Vec{theirs, 9}, a.ack, a.own)
			}
			if f.Acked != 7 || f.Stable != stable {
				t.Errorf("%v behind %v", f, order)
			}
		}
	}
	orders(answers, nil)
}

// peer is one of two sites, which hold all for good as soon as they have it.
type peer struct {
	frontier.Front
	rows    []api.Row
	know    api.Vec
	last    api.Stamp
	written []api.Change
	heard   []answer // what the other one told, on its way
}

// take puts a change into a peer's rows.
func (p *peer) take(t *testing.T, l []api.Group, c api.Change) {
	t.Helper()
	made, e := change.Rows(l, c)
	both, e2 := model.Merge(l, p.rows, made)
	if e != api.OK || e2 != api.OK {
		t.Fatalf("%v: %d, %d", c, int(e), int(e2))
	}
	p.rows, p.last = both, stamp.Later(p.last, c.Stamp)
	p.know[c.Site-1] = c.Seq
}

// write writes, or deletes, somewhere.
func (p *peer) write(t *testing.T, l []api.Group, r *rand.Rand) {
	t.Helper()
	w := api.Write{Key: string(rune('a' + r.IntN(3))), Group: r.IntN(len(l)), Gone: r.IntN(2) == 0}
	if !w.Gone {
		w.Value = string(rune('0' + len(p.written)%10))
	}
	know, _ := vec.Next(p.know, p.Site)
	last, _ := stamp.Next(p.last, r.IntN(200), p.Site)
	c := api.Change{Site: p.Site, Seq: of(p.Site, know), Stamp: last, Vec: know, Writes: []api.Write{w}}
	p.written = append(p.written, c)
	p.take(t, l, c)
}

// collect lets traces go, and tells how many rows were swept.
func (p *peer) collect(t *testing.T, l []api.Group) int {
	t.Helper()
	f, e := frontier.Settle(p.Front, p.know)
	stable, e2 := frontier.Stable(f, p.know)
	swept, _, e3 := frontier.Sweep(l, p.rows, stable)
	if e != api.OK || e2 != api.OK || e3 != api.OK {
		t.Fatalf("%v of %v: %d, %d, %d", p.Front, p.know, int(e), int(e2), int(e3))
	}
	p.rows = behind(p.rows, swept)
	return len(swept)
}

// follow lets a peer take the next change of the other one, if there is one.
func (p *peer) follow(t *testing.T, l []api.Group, from *peer) {
	t.Helper()
	if next := of(from.Site, p.know); next < len(from.written) {
		p.take(t, l, from.written[next])
	}
}

// act does something at a peer, and tells how many rows were swept.
func (p *peer) act(t *testing.T, l []api.Group, r *rand.Rand, from *peer) int {
	t.Helper()
	switch r.IntN(6) {
	case 0:
		p.write(t, l, r)
	case 1, 2:
		p.follow(t, l, from)
	case 3:
		from.heard = append(from.heard, answer{of(from.Site, p.know), of(p.Site, p.know)})
	case 4: // late, doubled and lost ones among them
		if len(p.heard) == 0 {
			break
		}
		i := r.IntN(len(p.heard))
		f, e := frontier.Learn(p.Front, p.know, p.heard[i].ack, p.heard[i].own)
		if p.Front = f; e != api.OK {
			t.Fatalf("Learn of %v: %d", p.heard[i], int(e))
		}
		if r.IntN(2) == 0 {
			p.heard = p.heard[i:]
		}
	case 5:
		return p.collect(t, l)
	}
	return 0
}

// wantMeant wants that what is to be seen of a peer is what the changes mean that it knows of.
func wantMeant(t *testing.T, l []api.Group, p, a, b *peer) {
	t.Helper()
	rows, e := model.State(l, slices.Concat(a.written[:p.know[0]], b.written[:p.know[1]]))
	want := model.Scan(l, rows, "", "", math.MaxInt)
	if got := model.Scan(l, p.rows, "", "", math.MaxInt); e != api.OK || !sameViews(got, want) {
		t.Fatalf("site %d sees %v, not %v, behind %v", p.Site, got, want, rows)
	}
}

func TestTwoSites(t *testing.T) { // P23.3 and P23.6: what was let go is missed by nothing that comes
	r := rand.New(rand.NewPCG(235, 236))
	swept := 0
	for turn := range 200 {
		l := schemas[turn%len(schemas)]
		a, b := &peer{Front: front(1, 0, 0, 0, 0)}, &peer{Front: front(2, 0, 0, 0, 0)}
		for range 100 {
			if r.IntN(2) == 0 {
				swept += a.act(t, l, r, b)
			} else {
				swept += b.act(t, l, r, a)
			}
			wantMeant(t, l, a, a, b)
			wantMeant(t, l, b, a, b)
		}
		for range 100 {
			a.follow(t, l, b)
			b.follow(t, l, a)
			wantMeant(t, l, a, a, b)
			wantMeant(t, l, b, a, b)
		}
		if a.know != b.know {
			t.Fatalf("%v and %v are known", a.know, b.know)
		}
	}
	if swept < 300 {
		t.Errorf("only %d rows were swept", swept)
	}
}
