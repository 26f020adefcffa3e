package wire_test

import (
	"bytes"
	"math"
	"math/rand/v2"
	"slices"
	"strings"
	"testing"

	"gemel/api"
	"gemel/change"
	"gemel/frame"
	"gemel/model"
	"gemel/probe"
	"gemel/row"
	"gemel/wire"
)

// schemas are some of 1 to MaxGroups groups, noSchemas groups that are none.
var (
	schemas   = probe.Schemas()
	noSchemas = probe.NoSchemas()
)

// ab is the schema a=last,b=delete.
var ab = schemas[2]

// outside are numbers that are neither a site nor a kind, nor in a path.
var outside = []int{math.MinInt, -1 << 32, -1, 16, 1<<32 + 2, math.MaxInt}

// sums tells so many digests, no two the same.
func sums(n int) []api.Digest {
	var out []api.Digest
	for i := range n {
		d := api.Digest{byte(i + 1)}
		d[31] = byte(0xff - i)
		out = append(out, d)
	}
	return out
}

// rowsOf tells so many rows of a schema, with keys that rise, that are a state.
func rowsOf(l []api.Group, n int) []api.Row {
	var out []api.Row
	for i := range n {
		r := api.Row{Key: "k" + string([]byte{byte(i / 256), byte(i)}), Cells: make([]api.Cell, len(l))}
		r.Cells[i%len(l)] = api.Cell{Stamp: api.Stamp{N: 1 + i, Site: 1}, Vec: api.Vec{1 + i, i}, Value: "x"}
		out = append(out, r)
	}
	return out
}

// lists of messages that may be, of each kind.
func datas(l []api.Group) []api.Msg {
	var out []api.Msg
	for _, c := range probe.Changes(l) {
		out = append(out, api.Msg{Kind: api.MsgData, Site: c.Site, Change: c})
	}
	return out
}

func acks() []api.Msg {
	var out []api.Msg
	for i, n := range []int{0, 1, 63, 64, 1 << 14, 1 << 30, api.MaxSeq - 1, api.MaxSeq} {
		out = append(out, api.Msg{Kind: api.MsgAck, Site: 1 + i%2, Ack: n}, api.Msg{Kind: api.MsgAck, Site: 2 - i%2, Own: n}, api.Msg{Kind: api.MsgAck, Site: 1 + i%2, Ack: n, Own: api.MaxSeq - n})
	}
	return out
}

func asks() []api.Msg {
	var out []api.Msg
	for i, path := range [][]int{nil, {}, {0}, {15}, {0, 0}, {15, 0}, {0, 15}, {15, 15}, {3, 9}} {
		out = append(out, api.Msg{Kind: api.MsgAsk, Site: 1 + i%2, Path: path, Sums: sums(i + 1)[i:]}, api.Msg{Kind: api.MsgAsk, Site: 2 - i%2, Path: path, Sums: make([]api.Digest, 1)})
	}
	return out
}

func tells() []api.Msg {
	var out []api.Msg
	for i, path := range [][]int{nil, {}, {0}, {15}, {3}} {
		out = append(out, api.Msg{Kind: api.MsgTell, Site: 1 + i%2, Path: path, Sums: sums(16)}, api.Msg{Kind: api.MsgTell, Site: 2 - i%2, Path: path, Sums: make([]api.Digest, 16)})
	}
	return out
}

func leaves(l []api.Group) []api.Msg {
	all, _ := model.State(l, probe.Changes(l))
	some, _ := model.State(l, probe.Changes(l)[1:4])
	var out []api.Msg
	for i, rows := range [][]api.Row{nil, {}, all, some, some[:1], rowsOf(l, 1), rowsOf(l, 2), rowsOf(l, 70)} {
		know := []api.Vec{{}, {0, 1}, {1, 0}, {4, 5}, {api.MaxSeq, 64}, {63, api.MaxSeq}}[i%6]
		out = append(out, api.Msg{Kind: api.MsgLeaf, Site: 1 + i%2, Path: []int{i, 15 - i}, Rows: rows, Know: know, Back: i%3 == 0}, api.Msg{Kind: api.MsgLeaf, Site: 2 - i%2, Path: [][]int{{0, 0}, {15, 15}}[i%2], Rows: rows, Know: know, Back: i%2 == 0})
	}
	return out
}

// some tells messages by a schema that may be.
func some(l []api.Group) []api.Msg {
	return slices.Concat(datas(l), acks(), asks(), tells(), leaves(l))
}

// oneOfEach tells a message of each kind, in the order of the kinds.
func oneOfEach(l []api.Group) []api.Msg {
	return []api.Msg{
		datas(l)[3], {Kind: api.MsgAck, Site: 2, Ack: 3, Own: 1}, {Kind: api.MsgAsk, Site: 1, Path: []int{3}, Sums: sums(1)},
		{Kind: api.MsgTell, Site: 2, Path: []int{3}, Sums: sums(16)}, {Kind: api.MsgLeaf, Site: 1, Path: []int{8, 2}, Rows: rowsOf(l, 3), Know: api.Vec{4, 5}, Back: true},
	}
}

// copied tells a message with lists of its own.
func copied(m api.Msg) api.Msg {
	m.Change.Writes, m.Path, m.Sums, m.Rows = slices.Clone(m.Change.Writes), slices.Clone(m.Path), slices.Clone(m.Sums), slices.Clone(m.Rows)
	for i := range m.Rows {
		m.Rows[i].Cells = slices.Clone(m.Rows[i].Cells)
	}
	return m
}

// with tells a message with something else.
func with(m api.Msg, do func(m *api.Msg)) api.Msg {
	m = copied(m)
	do(&m)
	return m
}

// same tells whether two messages are.
func same(a, b api.Msg) bool {
	if a.Kind != b.Kind || a.Site != b.Site || a.Ack != b.Ack || a.Own != b.Own || a.Know != b.Know || a.Back != b.Back {
		return false
	}
	x, y := a.Change, b.Change
	if x.Site != y.Site || x.Seq != y.Seq || x.Stamp != y.Stamp || x.Vec != y.Vec || !slices.Equal(x.Writes, y.Writes) {
		return false
	}
	sameRow := func(r, s api.Row) bool { return r.Key == s.Key && slices.Equal(r.Cells, s.Cells) }
	return slices.Equal(a.Path, b.Path) && slices.Equal(a.Sums, b.Sums) && slices.EqualFunc(a.Rows, b.Rows, sameRow)
}

// wrong tells messages by a schema that may not be, most of them for one thing alone.
func wrong(l []api.Group) []api.Msg {
	out := slices.Concat(wrongKinds(l), wrongSites(l), wrongData(l), wrongAcks(), wrongTrees(l), wrongLeaves(l))
	for _, m := range oneOfEach(l) {
		out = append(out, strangers(l, m)...)
	}
	return out
}

func wrongKinds(l []api.Group) []api.Msg {
	out := []api.Msg{{}}
	for _, kind := range append([]int{0, 6}, outside...) {
		out = append(out, api.Msg{Kind: kind, Site: 1}, api.Msg{Kind: kind, Site: 2})
	}
	for _, m := range oneOfEach(l) {
		for _, kind := range append([]int{0, 1, 2, 3, 4, 5, 6}, outside...) { // another kind of the same fields, too
			if kind != m.Kind {
				out = append(out, with(m, func(m *api.Msg) { m.Kind = kind }))
			}
		}
	}
	return out
}

func wrongSites(l []api.Group) []api.Msg {
	var out []api.Msg
	for _, m := range oneOfEach(l) {
		for _, site := range append([]int{0, 3, 4, 5, 6}, outside...) {
			out = append(out, with(m, func(m *api.Msg) { m.Site = site }))
		}
	}
	return out
}

func wrongData(l []api.Group) []api.Msg {
	out := []api.Msg{{Kind: api.MsgData, Site: 1}, {Kind: api.MsgData, Site: 2}}
	for _, m := range datas(l) { // a change of the other site, and ones that may not be
		out = append(out, with(m, func(m *api.Msg) { m.Site = 3 - m.Site }), with(m, func(m *api.Msg) { m.Change.Site = 3 - m.Site }), with(m, func(m *api.Msg) { m.Change.Vec[m.Site-1]++ }), with(m, func(m *api.Msg) { m.Change.Writes = nil }))
	}
	for _, c := range probe.NoChanges(l) {
		out = append(out, api.Msg{Kind: api.MsgData, Site: c.Site, Change: c}, api.Msg{Kind: api.MsgData, Site: 1, Change: c}, api.Msg{Kind: api.MsgData, Site: 2, Change: c})
	}
	return out
}

func wrongAcks() []api.Msg {
	var out []api.Msg
	for _, n := range []int{math.MinInt, -api.MaxSeq, -1, api.MaxSeq + 1, 1 << 62, math.MaxInt} {
		for _, site := range []int{1, 2} {
			out = append(out, api.Msg{Kind: api.MsgAck, Site: site, Ack: n}, api.Msg{Kind: api.MsgAck, Site: site, Own: n}, api.Msg{Kind: api.MsgAck, Site: site, Ack: 5, Own: n}, api.Msg{Kind: api.MsgAck, Site: site, Ack: n, Own: 5})
		}
	}
	return out
}

// wrongTrees tells messages with a path or with digests that may not be.
func wrongTrees(l []api.Group) []api.Msg {
	counts := map[int]int{api.MsgAsk: 1, api.MsgTell: 16, api.MsgLeaf: 0}
	lengths := map[int][]int{api.MsgAsk: {0, 1, 2}, api.MsgTell: {0, 1}, api.MsgLeaf: {2}}
	var out []api.Msg
	for _, m := range oneOfEach(l)[2:] {
		for _, n := range []int{0, 1, 2, 15, 16, 17, 100} {
			if n != counts[m.Kind] {
				out = append(out, with(m, func(m *api.Msg) { m.Sums = sums(n) }))
			}
		}
		for _, n := range []int{0, 1, 2, 3, 4, 100} {
			if !slices.Contains(lengths[m.Kind], n) {
				out = append(out, with(m, func(m *api.Msg) { m.Path = make([]int, n) }))
			}
		}
		for i := range m.Path {
			for _, n := range append([]int{17, 63, 64, 255, 256}, outside...) {
				out = append(out, with(m, func(m *api.Msg) { m.Path[i] = n }))
			}
		}
	}
	ask := oneOfEach(l)[2]
	for _, path := range [][]int{{-1}, {16}, {-1, 0}, {0, -1}, {16, 15}, {15, 16}} {
		out = append(out, with(ask, func(m *api.Msg) { m.Path = path }))
	}
	return out
}

func wrongLeaves(l []api.Group) []api.Msg {
	m := oneOfEach(l)[4]
	x := m.Rows[0]
	bare := api.Row{Key: "z", Cells: make([]api.Cell, len(l))}
	var out []api.Msg
	add := func(rows ...api.Row) {
		out = append(out, with(m, func(m *api.Msg) { m.Rows = rows }))
	}
	for _, n := range []int{api.MaxRows + 1, api.MaxRows + 2, 1000} {
		add(rowsOf(l, n)...)
	}
	add(bare)
	add(x, bare)
	add(bare, bare)
	add(x, x)
	add(m.Rows[1], x)
	add(m.Rows[0], m.Rows[2], m.Rows[1])
	add(m.Rows[1], m.Rows[0], m.Rows[2])
	add(append(rowsOf(l, 255), x)...)
	for _, no := range probe.NoRows(l) {
		add(no.Row)
		add(no.Row, api.Row{Key: "\xff", Cells: x.Cells})
		add(api.Row{Key: "a", Cells: x.Cells}, no.Row)
	}
	for _, n := range []int{math.MinInt, -1, api.MaxSeq + 1, math.MaxInt} {
		out = append(out, with(m, func(m *api.Msg) { m.Know[0] = n }), with(m, func(m *api.Msg) { m.Know[1] = n }))
	}
	return out
}

// strangers tells a message with each field in turn that is not named for its kind.
func strangers(l []api.Group, m api.Msg) []api.Msg {
	named := map[int]string{api.MsgData: "change", api.MsgAck: "counts", api.MsgAsk: "path sums", api.MsgTell: "path sums", api.MsgLeaf: "path rows know back"}
	c := datas(l)[0].Change
	var out []api.Msg
	for _, x := range []struct {
		name string
		set  func(m *api.Msg)
	}{
		{"change", func(m *api.Msg) { m.Change = c }},
		{"change", func(m *api.Msg) { m.Change.Site = m.Site }},
		{"change", func(m *api.Msg) { m.Change.Site = -1 }},
		{"change", func(m *api.Msg) { m.Change.Seq = 1 }},
		{"change", func(m *api.Msg) { m.Change.Stamp.N = 1 }},
		{"change", func(m *api.Msg) { m.Change.Stamp.Site = 1 }},
		{"change", func(m *api.Msg) { m.Change.Vec = api.Vec{1, 0} }},
		{"change", func(m *api.Msg) { m.Change.Vec = api.Vec{0, -1} }},
		{"change", func(m *api.Msg) { m.Change.Writes = c.Writes[:1] }},
		{"change", func(m *api.Msg) { m.Change.Writes = make([]api.Write, 1) }},
		{"counts", func(m *api.Msg) { m.Ack = 1 }},
		{"counts", func(m *api.Msg) { m.Ack = -1 }},
		{"counts", func(m *api.Msg) { m.Own = 1 }},
		{"counts", func(m *api.Msg) { m.Own = -1 }},
		{"counts", func(m *api.Msg) { m.Ack, m.Own = math.MaxInt, math.MinInt }},
		{"path", func(m *api.Msg) { m.Path = []int{0} }},
		{"path", func(m *api.Msg) { m.Path = []int{0, 0} }},
		{"sums", func(m *api.Msg) { m.Sums = make([]api.Digest, 1) }},
		{"sums", func(m *api.Msg) { m.Sums = sums(16) }},
		{"rows", func(m *api.Msg) { m.Rows = rowsOf(l, 1) }},
		{"rows", func(m *api.Msg) { m.Rows = make([]api.Row, 1) }},
		{"know", func(m *api.Msg) { m.Know = api.Vec{1, 0} }},
		{"know", func(m *api.Msg) { m.Know = api.Vec{0, 1} }},
		{"know", func(m *api.Msg) { m.Know = api.Vec{0, -1} }},
		{"back", func(m *api.Msg) { m.Back = true }},
	} {
		if !strings.Contains(named[m.Kind], x.name) {
			out = append(out, with(m, x.set))
		}
	}
	return out
}

func wantGood(t *testing.T, l []api.Group, m api.Msg, want api.Errno) {
	t.Helper()
	if e := wire.Good(l, m); e != want {
		t.Fatalf("Good(%v, %v) = %d, want %d", l, m, int(e), int(want))
	}
}

func TestGood(t *testing.T) { // P14.1
	for _, l := range schemas {
		for _, m := range some(l) {
			wantGood(t, l, m, api.OK)
			if m.Kind != api.MsgData {
				wantGood(t, l, with(m, func(m *api.Msg) { m.Site = 3 - m.Site }), api.OK)
			}
			wantGood(t, l, with(m, func(m *api.Msg) { // a list without an element may be empty
				m.Change.Writes, m.Path, m.Sums, m.Rows = append([]api.Write{}, m.Change.Writes...), append([]int{}, m.Path...), append([]api.Digest{}, m.Sums...), append([]api.Row{}, m.Rows...)
			}), api.OK)
		}
		for n := range 300 {
			want := api.OK
			if n > 256 {
				want = api.ErrWire
			}
			wantGood(t, l, api.Msg{Kind: api.MsgLeaf, Site: 1, Path: []int{1, 2}, Rows: rowsOf(l, n)}, want)
		}
		for n := range 100 {
			asked, told, inPath := api.ErrWire, api.ErrWire, api.ErrWire
			if n == 1 {
				asked = api.OK
			}
			if n == 16 {
				told = api.OK
			}
			if n < 16 {
				inPath = api.OK
			}
			wantGood(t, l, api.Msg{Kind: api.MsgAsk, Site: 1, Sums: sums(n)}, asked)
			wantGood(t, l, api.Msg{Kind: api.MsgTell, Site: 1, Sums: sums(n)}, told)
			wantGood(t, l, api.Msg{Kind: api.MsgAsk, Site: 2, Path: []int{n}, Sums: sums(1)}, inPath)
			wantGood(t, l, api.Msg{Kind: api.MsgTell, Site: 2, Path: []int{n}, Sums: sums(16)}, inPath)
			wantGood(t, l, api.Msg{Kind: api.MsgLeaf, Site: 2, Path: []int{n, 0}}, inPath)
			wantGood(t, l, api.Msg{Kind: api.MsgLeaf, Site: 2, Path: []int{15, n}}, inPath)
		}
	}
}

func TestGoodErrors(t *testing.T) { // P14.1
	for _, l := range schemas {
		for _, m := range wrong(l) {
			wantGood(t, l, m, api.ErrWire)
			for _, x := range noSchemas { // policy's errors go ahead
				wantGood(t, x.Groups, m, x.Err)
			}
		}
		for _, m := range some(l) {
			for _, x := range noSchemas {
				wantGood(t, x.Groups, m, x.Err)
			}
		}
	}
	wantGood(t, schemas[0], datas(ab)[0], api.ErrWire) // by another schema
	wantGood(t, schemas[0], oneOfEach(ab)[4], api.ErrWire)
}

func TestKind(t *testing.T) { // P14.1
	names := map[int]string{1: "data", 2: "ack", 3: "ask", 4: "tell", 5: "leaf"}
	for _, kind := range append([]int{0, 1, 2, 3, 4, 5, 6, 7}, outside...) {
		if got := wire.Kind(api.Msg{Kind: kind}); got != names[kind] {
			t.Errorf("Kind of %d = %q", kind, got)
		}
	}
	for _, l := range schemas {
		for _, m := range append(some(l), wrong(l)...) { // of those that may not be, too
			if got := wire.Kind(m); got != names[m.Kind] {
				t.Fatalf("Kind of %d = %q", m.Kind, got)
			}
		}
	}
}

// partsOf tells what the form of a message is to be, part by part.
func partsOf(l []api.Group, m api.Msg) [][]byte {
	out := [][]byte{probe.Laid(m.Kind), probe.Laid(m.Site)}
	switch m.Kind {
	case 1:
		return append(out, change.Put(nil, l, m.Change))
	case 2:
		return append(out, probe.Laid(m.Ack), probe.Laid(m.Own))
	}
	out = append(out, probe.Laid(len(m.Path)))
	for _, n := range m.Path {
		out = append(out, probe.Laid(n))
	}
	for _, d := range m.Sums {
		out = append(out, d[:])
	}
	if m.Kind == 5 {
		out = append(out, probe.Laid(m.Know[0]), probe.Laid(m.Know[1]), []byte{0}, probe.Laid(len(m.Rows)))
		if m.Back {
			out[len(out)-2][0] = 1
		}
		for _, r := range m.Rows {
			out = append(out, row.Put(nil, l, r))
		}
	}
	return out
}

// formOf tells what the form of a message is to be.
func formOf(l []api.Group, m api.Msg) []byte {
	return slices.Concat(partsOf(l, m)...)
}

func wantEncode(t *testing.T, l []api.Group, m api.Msg, want []byte) {
	t.Helper()
	if b, e := wire.Encode(l, m); e != api.OK || !bytes.Equal(b, want) {
		t.Fatalf("Encode(%v, %v) = %.300x, %d, want %.300x", l, m, b, int(e), want)
	}
}

// biggest tells messages of each kind with as many bytes as there may be, and the schema of these.
func biggest() ([]api.Group, []api.Msg) {
	const del = api.DeleteWins
	l := []api.Group{{Name: "a", Policy: del}, {Name: "b", Policy: del}, {Name: "c", Policy: del}, {Name: "d", Policy: del}}
	long, most := strings.Repeat("k", api.MaxKey-2), api.Vec{api.MaxSeq, api.MaxSeq}
	s := api.Stamp{N: api.MaxCount, Site: 2}
	c := api.Change{Site: 2, Seq: api.MaxSeq, Stamp: s, Vec: most}
	var rows []api.Row
	for i := range api.MaxRows {
		cell := api.Cell{Stamp: s, Vec: most, Value: strings.Repeat("v", api.MaxValue), Dead: most}
		r := api.Row{Key: long + string([]byte{byte(i), 'k'}), Cells: []api.Cell{cell, cell, cell, cell}}
		rows = append(rows, r)
		if i < api.MaxWrites {
			c.Writes = append(c.Writes, api.Write{Key: r.Key, Group: 3, Value: cell.Value})
		}
	}
	return l, []api.Msg{
		{Kind: api.MsgData, Site: 2, Change: c}, {Kind: api.MsgAck, Site: 2, Ack: api.MaxSeq, Own: api.MaxSeq},
		{Kind: api.MsgAsk, Site: 2, Path: []int{15, 15}, Sums: sums(1)}, {Kind: api.MsgTell, Site: 2, Path: []int{15}, Sums: sums(16)},
		{Kind: api.MsgLeaf, Site: 2, Path: []int{15, 15}, Rows: rows, Know: most, Back: true},
	}
}

func TestEncode(t *testing.T) { // P14.2
	ack := api.Msg{Kind: api.MsgAck, Site: 2, Ack: 3, Own: 1} // the chapter's example
	b, e := wire.Encode(ab, ack)
	if e != api.OK || len(b) != 10 || !bytes.HasPrefix(b, []byte("\xb5\x04\x02\x02\x03\x01")) {
		t.Fatalf("the example is %x, %d", b, int(e))
	}
	x := api.Change{Site: 1, Seq: 1, Stamp: api.Stamp{N: 1, Site: 1}, Vec: api.Vec{1, 0}, Writes: []api.Write{{Key: "k", Value: "x"}}}
	d := sums(16)
	var all string
	for _, s := range d {
		all += string(s[:])
	}
	cells := []api.Cell{{Stamp: x.Stamp, Vec: x.Vec, Value: "x"}, {Dead: api.Vec{2, 1}}}
	for _, c := range []struct {
		m    api.Msg
		form string
	}{
		{ack, "\x02\x02\x03\x01"},
		{api.Msg{Kind: api.MsgAck, Site: 1, Ack: 0, Own: 64}, "\x02\x01\x00\x40\x40"},
		{api.Msg{Kind: api.MsgData, Site: 1, Change: x}, "\x01\x01\x01\x01\x02\x01\x00\x01\x01k\x00\x00\x01x"},
		{api.Msg{Kind: api.MsgAsk, Site: 1, Sums: d[:1]}, "\x03\x01\x00" + all[:32]},
		{api.Msg{Kind: api.MsgAsk, Site: 2, Path: []int{15, 3}, Sums: d[1:2]}, "\x03\x02\x02\x0f\x03" + all[32:64]},
		{api.Msg{Kind: api.MsgTell, Site: 2, Path: []int{7}, Sums: d}, "\x04\x02\x01\x07" + all},
		{api.Msg{Kind: api.MsgLeaf, Site: 1, Path: []int{8, 2}, Know: api.Vec{4, 64}}, "\x05\x01\x02\x08\x02\x04\x40\x40\x00\x00"},
		{api.Msg{Kind: api.MsgLeaf, Site: 1, Path: []int{8, 2}, Rows: []api.Row{{Key: "k", Cells: cells}, {Key: "m", Cells: []api.Cell{{}, cells[1]}}}, Back: true}, "\x05\x01\x02\x08\x02\x00\x00\x01\x02\x01k\x01\x02\x01\x00\x01x\x04\x02\x01\x01m\x00\x04\x02\x01"},
	} {
		wantEncode(t, ab, c.m, frame.Wrap([]byte(c.form)))
	}
	for _, l := range schemas {
		for _, m := range some(l) {
			wantEncode(t, l, m, frame.Wrap(formOf(l, m)))
		}
	}
}

func TestEncodeOfBiggest(t *testing.T) { // P14.2: no form is too long for a frame
	l, all := biggest()
	for i, size := range []int{2 + 1 + 8 + 8 + 16 + 1 + 8*(33+1+1+66), 2 + 16, 2 + 3 + 32, 2 + 2 + 512, 2 + 3 + 16 + 1 + 2 + 256*(33+4*(1+8+16+66+16))} {
		form := formOf(l, all[i])
		if len(form) != size || size > api.MaxFrame {
			t.Fatalf("a form of %d bytes, want %d", len(form), size)
		}
		b := frame.Wrap(form)
		wantEncode(t, l, all[i], b)
		wantDecode(t, l, b, all[i])
	}
	leaf := with(all[4], func(m *api.Msg) { m.Rows = append(m.Rows, api.Row{Key: "z", Cells: m.Rows[0].Cells}) })
	wantNoEncode(t, l, leaf, api.ErrWire)
	wantNone(t, l, frame.Wrap(formOf(l, leaf)), api.ErrWire)
}

func wantNoEncode(t *testing.T, l []api.Group, m api.Msg, want api.Errno) {
	t.Helper()
	if b, e := wire.Encode(l, m); len(b) != 0 || e != want {
		t.Fatalf("Encode(%v, %v) = %.300x, %d, want none and %d", l, m, b, int(e), int(want))
	}
}

func TestEncodeErrors(t *testing.T) { // P14.2
	for _, l := range schemas {
		for _, m := range wrong(l) {
			wantNoEncode(t, l, m, api.ErrWire)
			for _, x := range noSchemas {
				wantNoEncode(t, x.Groups, m, x.Err)
			}
		}
		for _, m := range some(l) {
			for _, x := range noSchemas {
				wantNoEncode(t, x.Groups, m, x.Err)
			}
		}
	}
}

func wantDecode(t *testing.T, l []api.Group, b []byte, want api.Msg) {
	t.Helper()
	if m, e := wire.Decode(l, b); !same(m, want) || e != api.OK {
		t.Fatalf("Decode(%v, %.300x) = %v, %d, want %v", l, b, m, int(e), want)
	}
}

func wantNone(t *testing.T, l []api.Group, b []byte, want api.Errno) {
	t.Helper()
	if m, e := wire.Decode(l, b); !same(m, api.Msg{}) || e != want {
		t.Fatalf("Decode(%v, %.300x) = %v, %d, want none and %d", l, b, m, int(e), int(want))
	}
}

func TestDecode(t *testing.T) { // P14.2 and P14.3
	for _, l := range schemas {
		for _, m := range some(l) {
			b, _ := wire.Encode(l, m)
			wantDecode(t, l, b, m)
			for _, behind := range []string{"\x00", "\xb5", "behind", string(b)} { // bytes behind the frame
				wantNone(t, l, append(slices.Clone(b), behind...), api.ErrWire)
			}
			for _, x := range noSchemas {
				wantNone(t, x.Groups, b, x.Err)
			}
		}
		for _, m := range oneOfEach(l) {
			b, _ := wire.Encode(l, m)
			for have := range len(b) { // the missing bytes stand behind the list's length
				wantNone(t, l, b[:have], api.ErrCut)
			}
		}
		wantNone(t, l, nil, api.ErrCut)
	}
}

func TestDecodeOfOtherBytes(t *testing.T) { // P14.2 and P14.4: each byte in turn is another one
	for _, l := range schemas {
		for _, m := range oneOfEach(l) {
			b, _ := wire.Encode(l, m)
			behind := 1 + len(probe.Laid(len(formOf(l, m)))) // the length
			for i := range b {
				for _, bits := range []byte{1, 2, 4, 8, 16, 32, 64, 128, 255, 0x0f, 0xb5} {
					other := slices.Clone(b)
					other[i] ^= bits
					_, size, want := frame.Open(other)
					switch {
					case i == 0:
						want = api.ErrMark
					case i >= behind:
						want = api.ErrSum
					case want == api.OK && size < len(other):
						want = api.ErrWire
					case want == api.OK:
						t.Fatalf("%x is a frame", other)
					}
					wantNone(t, l, other, want)
				}
			}
		}
	}
}

func TestTurned(t *testing.T) { // P14.4: some within four side by side
	r := rand.New(rand.NewPCG(141, 142))
	for _, l := range schemas {
		for _, m := range some(l) {
			b, _ := wire.Encode(l, m)
			for at := 1 + len(probe.Laid(len(formOf(l, m)))); at < len(b); at++ {
				other := slices.Clone(b)
				for i := at; i < min(at+4, len(b)); i++ {
					other[i] ^= byte(r.Uint32())
				}
				if !bytes.Equal(other, b) {
					wantNone(t, l, other, api.ErrSum)
				}
			}
		}
	}
}

// badNumbers are bytes with which no number begins: in more bytes than are needed, or cut.
var badNumbers = []string{"\x40\x00", "\x40\x01", "\x40\x0f", "\x40\x3f", "\x80\x00\x00\x01", "\x80\x00\x3f\xff", "\xc0\x00\x00\x00\x00\x00\x00\x02", "\xc0\x00\x00\x00\x3f\xff\xff\xff"}

func TestDecodeParts(t *testing.T) { // P14.2: each part in turn is one that may not be
	laid := func(l ...int) [][]byte {
		var out [][]byte
		for _, n := range l {
			out = append(out, probe.Laid(n))
		}
		return out
	}
	none := func(l []api.Group, parts [][]byte, i int, part []byte) {
		t.Helper()
		form := slices.Concat(slices.Concat(parts[:i]...), part, slices.Concat(parts[i+1:]...))
		wantNone(t, l, frame.Wrap(form), api.ErrWire)
		wantNone(t, l, frame.Wrap(append(form, make([]byte, 600)...)), api.ErrWire)
		for _, x := range noSchemas {
			wantNone(t, x.Groups, frame.Wrap(form), x.Err)
		}
	}
	kind, site := laid(0, 6, 7, 63, 64, 1<<32+2, api.MaxNum), laid(0, 3, 4, 63, 64, 1<<32+2, api.MaxNum)
	inPath, count, known := laid(16, 17, 63, 64, 1<<32, api.MaxNum), laid(3, 4, 63, 64, 1<<32, api.MaxNum), laid(api.MaxSeq+1, api.MaxNum)
	digest := [][]byte{nil, make([]byte, 31), make([]byte, 33)}
	for _, l := range schemas {
		each := oneOfEach(l)
		data := slices.Concat(laid(0, 1), [][]byte{nil, change.Put(nil, l, datas(l)[2].Change), change.Put(nil, l, datas(l)[3].Change)[1:]})
		x := row.Put(nil, l, each[4].Rows[0])
		bare := row.Put(nil, l, api.Row{Key: "l", Cells: make([]api.Cell, len(l))})
		ofRows := func(rows ...[]byte) [][]byte { return append(rows, nil, []byte{0}, x[1:], bare, x[:len(x)-1]) }
		bad := [][][][]byte{
			{kind, site, data},
			{kind, site, known, known},
			{kind, site, slices.Concat(count, laid(0, 2)), inPath, digest},
			append([][][]byte{kind, site, slices.Concat(count, laid(0, 2)), inPath}, slices.Repeat([][][]byte{digest}, 16)...),
			{kind, site, slices.Concat(count, laid(0, 1)), inPath, inPath, known, known, laid(2, 3, 63, 64, api.MaxNum), laid(0, 1, 2, 4, 256, 257, 1<<32+3, api.MaxNum),
				ofRows(row.Put(nil, l, each[4].Rows[1]), row.Put(nil, l, each[4].Rows[2])), ofRows(x, row.Put(nil, l, each[4].Rows[2])), ofRows(x, row.Put(nil, l, each[4].Rows[1]))},
		}
		for k, m := range each {
			parts := partsOf(l, m)
			wantDecode(t, l, frame.Wrap(slices.Concat(parts...)), m)
			if len(parts) != len(bad[k]) {
				t.Fatalf("%d parts, want %d", len(parts), len(bad[k]))
			}
			for i := range parts {
				for _, part := range bad[k][i] {
					none(l, parts, i, part)
				}
				if len(parts[i]) < 9 {
					for _, s := range badNumbers {
						none(l, parts, i, []byte(s))
					}
				}
			}
		}
	}
}

func TestDecodeOfSize(t *testing.T) { // P14.2: fewer and more bytes than the form has
	for _, l := range schemas {
		for _, m := range some(l) {
			form := formOf(l, m)
			wantDecode(t, l, frame.Wrap(form), m)
			for have := range min(len(form), 700) {
				wantNone(t, l, frame.Wrap(form[:have]), api.ErrWire)
			}
			wantNone(t, l, frame.Wrap(form[:len(form)-1]), api.ErrWire)
			for _, more := range []string{"\x00", "\x01", "\xff", strings.Repeat("\x00", 32), string(form)} {
				wantNone(t, l, frame.Wrap(append(slices.Clone(form), more...)), api.ErrWire)
			}
		}
		wantNone(t, l, frame.Wrap(nil), api.ErrWire)
		wantNone(t, l, frame.Wrap(make([]byte, api.MaxFrame)), api.ErrWire)
	}
}

func TestDecodeOfBad(t *testing.T) { // P14.2: forms of messages that may not be
	for _, l := range schemas {
		tried := 0
		for _, m := range slices.Concat(wrongSites(l), wrongData(l), wrongAcks(), wrongTrees(l), wrongLeaves(l)) {
			numbers := append([]int{m.Site, m.Ack, m.Own, m.Know[0], m.Know[1]}, m.Path...)
			if slices.ContainsFunc(numbers, func(n int) bool { return n < 0 || n > api.MaxNum }) {
				continue // no bytes could tell it
			}
			tried++
			wantNone(t, l, frame.Wrap(formOf(l, m)), api.ErrWire)
		}
		if tried < 200 {
			t.Fatalf("%d messages that may not be have bytes", tried)
		}
	}
}

func TestDecodeErrors(t *testing.T) { // P14.2: in this order
	l := ab
	good, _ := wire.Encode(l, oneOfEach(l)[1])
	noForm := frame.Wrap([]byte{0})
	turned := slices.Clone(noForm)
	turned[len(turned)-1] ^= 1
	long := append([]byte{0xb5}, probe.Laid(api.MaxFrame+1)...)
	for _, x := range []struct {
		b    []byte
		want api.Errno
	}{
		{nil, api.ErrCut}, {[]byte{}, api.ErrCut}, {[]byte{0xb5}, api.ErrCut}, {[]byte{0xb4}, api.ErrMark}, {append([]byte{0}, good...), api.ErrMark},
		{[]byte("\xb5\x40\x01"), api.ErrForm}, {long, api.ErrLong}, {noForm[:len(noForm)-1], api.ErrCut}, {turned, api.ErrSum}, {append(slices.Clone(turned), good...), api.ErrSum},
		{noForm, api.ErrWire}, {append(slices.Clone(noForm), 0), api.ErrWire}, {append(slices.Clone(good), 0), api.ErrWire}, {append(slices.Clone(good), good...), api.ErrWire}, {append(slices.Clone(good), long...), api.ErrWire},
	} {
		wantNone(t, l, x.b, x.want)
		for _, no := range noSchemas { // policy's errors go ahead
			wantNone(t, no.Groups, x.b, no.Err)
		}
	}
}

func TestBackOfBytes(t *testing.T) { // P14.3: what is taken of any bytes is a message, and encoded as it was
	r := rand.New(rand.NewPCG(143, 144))
	taken, refused := 0, 0
	for _, l := range schemas {
		for _, m := range some(l) {
			form := formOf(l, m)
			for range 200 {
				other := slices.Clone(form)
				for range 1 + r.IntN(2) {
					other[r.IntN(min(len(other), 1+r.IntN(len(other))))] = byte(r.Uint32() >> r.IntN(9))
				}
				b := frame.Wrap(other)
				got, e := wire.Decode(l, b)
				if e != api.OK {
					refused++
					wantNone(t, l, b, api.ErrWire)
					continue
				}
				taken++
				wantGood(t, l, got, api.OK)
				wantEncode(t, l, got, b)
			}
		}
	}
	if taken < 1000 || refused < 1000 {
		t.Fatalf("%d are taken, %d refused", taken, refused)
	}
}

// roomy tells a message whose lists have spare room behind them, and a check that all that memory stays as it is.
func roomy(t *testing.T, m api.Msg) (api.Msg, func()) {
	t.Helper()
	plain := copied(m)
	writes, allWrites := probe.Roomy(m.Change.Writes, api.Write{Key: "\xff\xff\xff\xff", Value: "x"})
	path, allPath := probe.Roomy(m.Path, 15)
	sums, allSums := probe.Roomy(m.Sums, api.Digest{9})
	rows, allRows := probe.Roomy(m.Rows, api.Row{Key: "\xff\xff\xff\xff"})
	var cells [][]api.Cell
	for i := range rows {
		own, all := probe.Roomy(rows[i].Cells, api.Cell{Value: "spare"})
		rows[i].Cells = own
		cells = append(cells, all)
	}
	m.Change.Writes, m.Path, m.Sums, m.Rows = writes, path, sums, rows
	return m, func() {
		t.Helper()
		spared := func(same bool) {
			t.Helper()
			if !same {
				t.Fatalf("the memory of %v was changed", plain)
			}
		}
		spared(same(m, plain))
		for _, w := range allWrites[len(writes):] {
			spared(w == api.Write{Key: "\xff\xff\xff\xff", Value: "x"})
		}
		for _, n := range allPath[len(path):] {
			spared(n == 15)
		}
		for _, d := range allSums[len(sums):] {
			spared(d == api.Digest{9})
		}
		for _, r := range allRows[len(rows):] {
			spared(r.Key == "\xff\xff\xff\xff" && r.Cells == nil)
		}
		for i, all := range cells {
			for _, c := range all[len(rows[i].Cells):] {
				spared(c == api.Cell{Value: "spare"})
			}
		}
	}
}

func TestHandedInStays(t *testing.T) { // rules 4 and 8
	for _, l := range schemas {
		groups, allGroups := probe.Roomy(l, api.Group{Name: "spare", Policy: api.DeleteWins})
		before := slices.Clone(allGroups)
		for _, plain := range append(some(l), wrong(l)...) {
			m, stays := roomy(t, plain)
			want := wire.Good(l, plain)
			wantGood(t, groups, m, want)
			if wire.Kind(m) != wire.Kind(plain) {
				t.Fatalf("Kind of %v = %q", m, wire.Kind(m))
			}
			if want == api.OK {
				wantEncode(t, groups, m, frame.Wrap(formOf(l, plain)))
			} else {
				wantNoEncode(t, groups, m, want)
			}
			stays()
		}
		for _, m := range oneOfEach(l) {
			whole := frame.Wrap(formOf(l, m))
			for have := range len(whole) + 1 {
				for _, spare := range []byte{0, 0xb5, 0xff} {
					b, all := probe.Roomy(whole[:have], spare)
					bytesBefore := slices.Clone(all)
					if have < len(whole) {
						wantNone(t, groups, b, api.ErrCut)
					} else {
						wantDecode(t, groups, b, m)
					}
					if !bytes.Equal(all, bytesBefore) {
						t.Fatalf("the memory of %x was changed", b)
					}
				}
			}
		}
		if !slices.Equal(allGroups, before) {
			t.Fatalf("the memory of %v was changed", l)
		}
	}
}

func TestHandedOutIsNew(t *testing.T) { // rule 4
	for _, l := range schemas {
		for _, plain := range some(l) {
			m, _ := roomy(t, plain)
			first, _ := wire.Encode(l, m)
			again, _ := wire.Encode(l, m)
			b, whole := probe.Roomy(first, 0xb5)
			if !probe.Apart(first, again, whole) {
				t.Fatalf("bytes handed out share memory, of %v", plain)
			}
			got, _ := wire.Decode(l, b)
			more, _ := wire.Decode(l, b)
			var cells [][]api.Cell
			for _, x := range []api.Msg{m, got, more} {
				for _, r := range x.Rows {
					cells = append(cells, r.Cells)
				}
			}
			if !probe.Apart(m.Path, got.Path, more.Path) || !probe.Apart(m.Sums, got.Sums, more.Sums) || !probe.Apart(m.Rows, got.Rows, more.Rows) || !probe.Apart(m.Change.Writes, got.Change.Writes, more.Change.Writes) || !probe.Apart(cells...) {
				t.Fatalf("lists handed out or in share memory, of %v", plain)
			}
			clear(whole)
			clear(m.Path)
			clear(m.Sums)
			clear(m.Rows)
			clear(m.Change.Writes)
			if !same(got, plain) || !bytes.Equal(again, first) {
				t.Fatalf("what was handed out of %v hangs on what was handed in", plain)
			}
		}
	}
}
