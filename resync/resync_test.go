package resync_test

import (
	"crypto/sha256"
	"fmt"
	"math"
	"slices"
	"strings"
	"testing"

	"gemel/api"
	"gemel/model"
	"gemel/probe"
	"gemel/resync"
	"gemel/row"
	"gemel/wire"
)

// nobody is numbers that are no site's.
var nobody = []int{0, 3, -1, -2, 1<<32 + 1, math.MinInt, math.MaxInt}

// badVecs is counts that may not be.
var badVecs = []api.Vec{{-1, 0}, {0, -1}, {api.MaxSeq + 1, 0}, {0, api.MaxSeq + 1}, {math.MaxInt, math.MaxInt}, {math.MinInt, math.MinInt}}

// groups tells the schema of the chapters, a=last,b=delete.
func groups() []api.Group { return probe.Schemas()[2] }

// pathOf tells in another way than the program does what a key's path is to be.
func pathOf(key string) []int {
	first := sha256.Sum256([]byte(key))[0]
	return []int{int(first >> 4), int(first & 15)}
}

// paths tells all paths, those of fewer numbers first.
func paths() [][]int {
	out := [][]int{nil}
	for n := range 16 {
		out = append(out, []int{n})
	}
	for n := range 256 {
		out = append(out, []int{n / 16, n % 16})
	}
	return out
}

// under tells in another way than the program does which rows are under a path.
func under(rows []api.Row, path []int) []api.Row {
	var out []api.Row
	for _, r := range rows {
		if slices.Equal(pathOf(r.Key)[:len(path)], path) {
			out = append(out, r)
		}
	}
	return out
}

// sum tells in another way than the program does what a path's digest is to be.
func sum(l []api.Group, rows []api.Row, path []int) api.Digest {
	b := []byte{byte(0)}
	if len(path) < 2 {
		b[0] = 1
		for _, d := range sums(l, rows, path) {
			b = append(b, d[:]...)
		}
		return sha256.Sum256(b)
	}
	for _, r := range under(rows, path) {
		b = row.Put(b, l, r)
	}
	return sha256.Sum256(b)
}

// sums tells what the digests behind a path are to be.
func sums(l []api.Group, rows []api.Row, path []int) []api.Digest {
	rows = under(rows, path)
	var out []api.Digest
	for n := range 16 {
		out = append(out, sum(l, rows, slices.Concat(path, []int{n})))
	}
	return out
}

// ask, tell and leaf tell what a side's messages are to be.
func ask(s resync.Side, path []int) api.Msg {
	return api.Msg{Kind: api.MsgAsk, Site: s.Site, Path: path, Sums: []api.Digest{sum(s.Groups, s.Rows, path)}}
}

func tell(s resync.Side, path []int) api.Msg {
	return api.Msg{Kind: api.MsgTell, Site: s.Site, Path: path, Sums: sums(s.Groups, s.Rows, path)}
}

func leaf(s resync.Side, path []int, back bool) api.Msg {
	return api.Msg{Kind: api.MsgLeaf, Site: s.Site, Path: path, Rows: under(s.Rows, path), Know: s.Know, Back: back}
}

// side tells one that knows so much.
func side(l []api.Group, site int, rows []api.Row) resync.Side {
	return resync.Side{Groups: l, Site: site, Know: api.Vec{40, 50}, Low: api.Vec{3, 4}, Rows: rows}
}

// of tells a side as if it were another site's.
func of(s resync.Side, site int) resync.Side {
	s.Site = site
	return s
}

// spread tells a state of so many rows, at most 256, no two of them under one leaf.
func spread(l []api.Group, count, from int) []api.Row {
	met := map[string]int{}
	var out []api.Row
	for i := 1000; len(out) < count; i++ {
		key := fmt.Sprint("key", i)
		leaf := fmt.Sprint(pathOf(key))
		if met[leaf]++; met[leaf] == 1 {
			c := api.Cell{Stamp: api.Stamp{N: from + i, Site: 1 + i%2}, Vec: api.Vec{i % 30, i % 40}, Value: strings.Repeat("v", i%65)}
			out = append(out, probe.One(l, key, i%len(l), c))
		}
	}
	return out
}

// states tells some of a schema.
func states(l []api.Group) [][]api.Row {
	return append(probe.States(l)[:14], spread(l, 3, 1), spread(l, 40, 1))
}

// short tells something as a text that can be read in a test's answer, however long it is.
func short(x any) string { return fmt.Sprintf("%.400s", fmt.Sprint(x)) }

// sameMsg tells whether two messages may be, and are the same.
func sameMsg(l []api.Group, a, b api.Msg) bool {
	x, e := wire.Encode(l, a)
	y, e2 := wire.Encode(l, b)
	return e == api.OK && e2 == api.OK && slices.Equal(x, y)
}

// wantHear wants that a side answers a message with just these, and joins just these rows.
func wantHear(t *testing.T, s resync.Side, m api.Msg, msgs []api.Msg, rows []api.Row) {
	t.Helper()
	same := func(a, b api.Msg) bool { return sameMsg(s.Groups, a, b) }
	got, joined, e := resync.Hear(s, m)
	if !slices.EqualFunc(got, msgs, same) || !probe.SameRows(joined, rows) || e != api.OK {
		t.Fatalf("Hear of %s = %d messages %s, rows %s, %d, want %d: %s, %s", short(m), len(got), short(got), short(joined), int(e), len(msgs), short(msgs), short(rows))
	}
}

// wantNone wants that a side refuses a message.
func wantNone(t *testing.T, s resync.Side, m api.Msg, want api.Errno) {
	t.Helper()
	if msgs, rows, e := resync.Hear(s, m); len(msgs) != 0 || len(rows) != 0 || e != want {
		t.Fatalf("Hear of %s = %s, %s, %d, want %d", short(m), short(msgs), short(rows), int(e), int(want))
	}
}

// wantBad wants that a side may not be, whatever it hears.
func wantBad(t *testing.T, s resync.Side, want api.Errno) {
	t.Helper()
	if e := resync.Good(s); e != want {
		t.Fatalf("Good(%s) = %d, want %d", short(s), int(e), int(want))
	}
	if m, e := resync.Ask(s); fmt.Sprint(m) != fmt.Sprint(api.Msg{}) || e != want {
		t.Fatalf("Ask(%s) = %s, %d, want %d", short(s), short(m), int(e), int(want))
	}
	for _, m := range []api.Msg{{}, {Kind: api.MsgAck, Site: 1}, {Kind: api.MsgAsk, Site: 2, Sums: make([]api.Digest, 1)}, {Kind: api.MsgLeaf, Site: s.Site, Path: []int{1, 2}}} {
		wantNone(t, s, m, want)
	}
}

func TestGood(t *testing.T) { // P25.1
	for _, l := range probe.Schemas() {
		for i, rows := range append(states(l), nil, spread(l, 256, 1)) { // the last one has as many as may be
			for _, know := range []api.Vec{{}, {1, 0}, {api.MaxSeq, 0}, {0, api.MaxSeq}, {api.MaxSeq, api.MaxSeq}} {
				for _, low := range []api.Vec{{}, know, {api.MaxSeq, api.MaxSeq}} { // of which none has to know of the other one
					s := resync.Side{Groups: l, Site: 1 + i%2, Know: know, Low: low, Rows: rows}
					if e := resync.Good(s); e != api.OK {
						t.Fatalf("Good(%s) = %d", short(s), int(e))
					}
				}
			}
		}
	}
}

// tooMany tells a state of one row more than a side may have.
func tooMany(l []api.Group) []api.Row {
	return append(spread(l, 256, 1), probe.One(l, "z", 0, api.Cell{Stamp: api.Stamp{N: 1, Site: 1}}))
}

func TestBad(t *testing.T) { // P25.1, and Ask's and Hear's errors ahead of all others
	for _, l := range probe.Schemas() {
		for _, rows := range [][]api.Row{nil, probe.States(l)[2]} {
			for _, site := range nobody {
				wantBad(t, resync.Side{Groups: l, Site: site, Rows: rows}, api.ErrArg)
			}
			for _, v := range badVecs {
				wantBad(t, resync.Side{Groups: l, Site: 1, Know: v, Rows: rows}, api.ErrArg)
				wantBad(t, resync.Side{Groups: l, Site: 2, Low: v, Rows: rows}, api.ErrArg)
			}
		}
		wantBad(t, resync.Side{Groups: l, Site: 1, Rows: tooMany(l)}, api.ErrArg)
	}
}

func TestBadInOrder(t *testing.T) { // P25.1: model's errors ahead of the side's own
	for _, l := range probe.Schemas() {
		for _, rows := range probe.NoStates(l) {
			want := model.Good(l, rows)
			wantBad(t, resync.Side{Groups: l, Site: 1, Rows: rows}, want)
			wantBad(t, resync.Side{Groups: l, Site: 3, Know: api.Vec{-1, 0}, Low: api.Vec{0, -1}, Rows: rows}, want)
		}
		bare := append(tooMany(l), api.Row{Key: "zz", Cells: make([]api.Cell, len(l))})
		wantBad(t, resync.Side{Groups: l, Site: 1, Rows: bare}, api.ErrRow)
		for _, x := range probe.NoSchemas() {
			wantBad(t, resync.Side{Groups: x.Groups, Site: 1}, x.Err)
			wantBad(t, resync.Side{Groups: x.Groups, Site: 3, Know: api.Vec{-1, 0}, Rows: []api.Row{{}}}, x.Err)
		}
	}
}

func TestAsk(t *testing.T) { // P25.1
	for _, l := range probe.Schemas() {
		for i, rows := range states(l) {
			s := side(l, 1+i%2, rows)
			if m, e := resync.Ask(s); !sameMsg(l, m, ask(s, nil)) || e != api.OK {
				t.Fatalf("Ask = %s, %d, want %s", short(m), int(e), short(ask(s, nil)))
			}
		}
	}
}

func TestExample(t *testing.T) { // the chapter's
	for _, site := range []int{1, 2} {
		a, b := side(groups(), site, nil), side(groups(), 3-site, nil)
		m, e := resync.Ask(a)
		if e != api.OK {
			t.Fatalf("Ask: %d", int(e))
		}
		wantHear(t, b, m, nil, nil)
	}
}

func TestHearAsk(t *testing.T) { // P25.2
	for _, l := range probe.Schemas() {
		for i, rows := range states(l)[14:] {
			s, other := side(l, 1+i%2, rows), side(l, 2-i%2, nil)
			for at, path := range paths() {
				m := ask(other, path)
				m.Sums[0] = ask(s, path).Sums[0]
				wantHear(t, s, m, nil, nil)
				switch m.Sums[0][at%32] ^= 1 << (at % 8); len(path) { // any bit tells
				case 2:
					wantHear(t, s, m, []api.Msg{leaf(s, path, true)}, nil)
				default:
					wantHear(t, s, m, []api.Msg{tell(s, path)}, nil)
				}
			}
		}
	}
}

func TestHearTell(t *testing.T) { // P25.2: each number of which the digest is another one
	for _, l := range probe.Schemas() {
		for i, rows := range states(l)[12:] {
			s, other := side(l, 1+i%2, rows), side(l, 2-i%2, nil)
			for _, path := range paths()[:17] {
				for _, differs := range []int{0, 1, 2, 1 << 7, 1 << 15, 0x8001, 0x0ff0, 0x5555, 0xffff} {
					m := tell(other, path)
					m.Sums = sums(l, rows, path)
					var msgs []api.Msg
					for n := range 16 {
						if differs>>n&1 == 0 {
							continue
						}
						m.Sums[n][n] ^= 0x80
						next := slices.Concat(path, []int{n})
						if len(next) == 2 {
							msgs = append(msgs, leaf(s, next, true))
						} else {
							msgs = append(msgs, ask(s, next))
						}
					}
					wantHear(t, s, m, msgs, nil)
				}
			}
		}
	}
}

func TestHearLeaf(t *testing.T) { // P25.2
	for _, l := range probe.Schemas() {
		for i, rows := range states(l)[8:] {
			s, other := side(l, 1+i%2, rows), side(l, 2-i%2, states(l)[15-i])
			for _, path := range paths()[17:] {
				wantHear(t, s, leaf(other, path, false), nil, under(other.Rows, path))
				wantHear(t, s, leaf(other, path, true), []api.Msg{leaf(s, path, false)}, under(other.Rows, path))
				wantHear(t, s, leaf(of(s, other.Site), path, true), []api.Msg{leaf(s, path, false)}, under(s.Rows, path)) // the same rows
			}
		}
	}
}

func TestHearLate(t *testing.T) { // P25.2 and P25.5: joined just if Know covers Low; answered in any case
	l := groups()
	rows := probe.States(l)[2]
	path := pathOf(rows[0].Key)
	for _, x := range []struct {
		know, low api.Vec
		joined    bool
	}{
		{api.Vec{}, api.Vec{}, true}, {api.Vec{5, 6}, api.Vec{5, 6}, true}, {api.Vec{6, 7}, api.Vec{5, 6}, true}, {api.Vec{api.MaxSeq, api.MaxSeq}, api.Vec{api.MaxSeq, 0}, true},
		{api.Vec{4, 6}, api.Vec{5, 6}, false}, {api.Vec{5, 5}, api.Vec{5, 6}, false}, {api.Vec{9, 5}, api.Vec{5, 6}, false}, {api.Vec{4, 9}, api.Vec{5, 6}, false}, {api.Vec{}, api.Vec{0, 1}, false}, {api.Vec{}, api.Vec{1, 0}, false},
	} {
		s := resync.Side{Groups: l, Site: 1, Low: x.low} // what it knows itself plays no part
		m := leaf(resync.Side{Groups: l, Site: 2, Know: x.know, Low: api.Vec{99, 99}, Rows: rows}, path, false)
		var joined []api.Row
		if x.joined {
			joined = m.Rows
		}
		wantHear(t, s, m, nil, joined)
		m.Back = true
		wantHear(t, s, m, []api.Msg{leaf(s, path, false)}, joined)
	}
}

// noMsgs tells some messages that may not be.
func noMsgs(l []api.Group, site int) []api.Msg {
	rows := spread(l, 3, 1)
	out := []api.Msg{{}, {Site: site}, {Kind: 6, Site: site}, {Kind: -1, Site: site}, {Kind: api.MsgData, Site: site}, {Kind: api.MsgAck, Site: site, Ack: -1}}
	for _, path := range [][]int{{16}, {-1}, {1, 16}, {1, 2, 3}} {
		out = append(out, api.Msg{Kind: api.MsgAsk, Site: site, Path: path, Sums: make([]api.Digest, 1)}, api.Msg{Kind: api.MsgTell, Site: site, Path: path, Sums: make([]api.Digest, 16)}, api.Msg{Kind: api.MsgLeaf, Site: site, Path: path})
	}
	for _, path := range [][]int{nil, {1}} {
		out = append(out, api.Msg{Kind: api.MsgLeaf, Site: site, Path: path, Rows: under(rows, path)})
	}
	for _, n := range []int{0, 2, 15, 16, 17} {
		out = append(out, api.Msg{Kind: api.MsgAsk, Site: site, Sums: make([]api.Digest, n)})
		if n != 16 {
			out = append(out, api.Msg{Kind: api.MsgTell, Site: site, Sums: make([]api.Digest, n)})
		}
	}
	for _, site := range nobody {
		out = append(out, api.Msg{Kind: api.MsgAsk, Site: site, Sums: make([]api.Digest, 1)})
	}
	path := pathOf(rows[0].Key)
	return append(out,
		api.Msg{Kind: api.MsgTell, Site: site, Path: []int{1, 2}, Sums: make([]api.Digest, 16)},
		api.Msg{Kind: api.MsgAsk, Site: site, Sums: make([]api.Digest, 1), Back: true},
		api.Msg{Kind: api.MsgAsk, Site: site, Sums: make([]api.Digest, 1), Know: api.Vec{1, 0}},
		api.Msg{Kind: api.MsgLeaf, Site: site, Path: path, Know: api.Vec{-1, 0}},
		api.Msg{Kind: api.MsgLeaf, Site: site, Path: path, Rows: []api.Row{rows[0], rows[0]}},
		api.Msg{Kind: api.MsgLeaf, Site: site, Path: path, Rows: []api.Row{{Key: rows[0].Key, Cells: make([]api.Cell, len(l))}}},
		api.Msg{Kind: api.MsgLeaf, Site: site, Path: path, Rows: rows[:1], Sums: make([]api.Digest, 1)})
}

func TestHearErrorsInOrder(t *testing.T) { // P25.2
	for _, l := range probe.Schemas() {
		for _, site := range []int{1, 2} {
			s, other := side(l, site, probe.States(l)[2]), side(l, 3-site, spread(l, 30, 1))
			for _, m := range append(noMsgs(l, 3-site), noMsgs(l, site)...) {
				wantNone(t, s, m, api.ErrWire)
			}
			for _, from := range []int{1, 2} { // of itself, too: ahead of ErrOrigin
				wantNone(t, s, api.Msg{Kind: api.MsgData, Site: from, Change: probe.Changes(l)[from-1]}, api.ErrWire)
				wantNone(t, s, api.Msg{Kind: api.MsgAck, Site: from, Ack: 1, Own: 2}, api.ErrWire)
			}
			for _, path := range paths() {
				wantNone(t, s, ask(s, path), api.ErrOrigin)
				if len(path) < 2 {
					wantNone(t, s, tell(s, path), api.ErrOrigin)
					continue
				}
				m := leaf(of(other, site), path, path[1] > 7)
				wantNone(t, s, m, api.ErrOrigin)
				m.Rows = other.Rows // ahead of ErrTree
				wantNone(t, s, m, api.ErrOrigin)
			}
		}
	}
}

func TestHearElsewhere(t *testing.T) { // P25.2: a row that is not under its leaf's path
	l := groups()
	s, other := side(l, 1, spread(l, 5, 1)), side(l, 2, spread(l, 100, 1))
	for i, r := range other.Rows {
		path := pathOf(r.Key)
		for _, wrong := range [][]int{{path[0], (path[1] + 1) % 16}, {(path[0] + 1) % 16, path[1]}, {path[0] ^ 8, path[1]}, {path[0], path[1] ^ 8}} {
			m := leaf(other, wrong, i%2 == 0)
			m.Rows = []api.Row{r}
			wantNone(t, s, m, api.ErrTree)
			m.Know = api.Vec{} // also of one that comes late
			wantNone(t, s, m, api.ErrTree)
		}
		if i > 0 { // one that is behind one that isn't, one ahead
			m := leaf(other, path, true)
			m.Rows = other.Rows[i-1 : i+1]
			wantNone(t, s, m, api.ErrTree)
			m.Path = pathOf(other.Rows[i-1].Key)
			wantNone(t, s, m, api.ErrTree)
		}
	}
}
