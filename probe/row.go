package probe

import (
	"slices"
	"strings"

	"gemel/api"
	"gemel/model"
)

// NoRow is a row that is not good, with what row says of it.
type NoRow struct {
	Row api.Row
	Err api.Errno
}

// NoRows tells some by a schema, for each of row's errors but policy's, alone and with those that are told behind it.
func NoRows(l []api.Group) []NoRow {
	may, bad := api.Cell{Stamp: api.Stamp{N: 5, Site: 1}, Vec: api.Vec{1, 0}, Value: "x"}, api.Cell{Gone: true}
	long := strings.Repeat("k", api.MaxKey+1)
	var out []NoRow
	for _, c := range []api.Cell{{}, may, bad} {
		for _, size := range []int{len(l), 0, len(l) - 1, len(l) + 1} {
			cells := slices.Repeat([]api.Cell{c}, size)
			out = append(out, NoRow{api.Row{Key: "", Cells: cells}, api.ErrArg}, NoRow{api.Row{Key: long, Cells: cells}, api.ErrLong})
			if size != len(l) {
				out = append(out, NoRow{api.Row{Key: "k", Cells: cells}, api.ErrRow})
			}
		}
	}
	for i := range l {
		cells := slices.Repeat([]api.Cell{may}, len(l))
		cells[i] = bad
		out = append(out, NoRow{api.Row{Key: "k", Cells: cells}, api.ErrCell})
	}
	return out
}

// One tells the row of a schema whose cells are zero but for one.
func One(l []api.Group, key string, group int, c api.Cell) api.Row {
	r := api.Row{Key: key, Cells: make([]api.Cell, len(l))}
	r.Cells[group] = c
	return r
}

// SameRows tells whether two lists of rows are.
func SameRows(a, b []api.Row) bool {
	return slices.EqualFunc(a, b, func(a, b api.Row) bool { return a.Key == b.Key && slices.Equal(a.Cells, b.Cells) })
}

// States tells some by a schema that may be, that changes make: the first one without a row, others with few and with many, and with deletes.
func States(l []api.Group) [][]api.Row {
	cs := Changes(l)
	out := [][]api.Row{nil}
	for i := range cs {
		for _, part := range [][]api.Change{cs[i : i+1], cs[:i+1], cs[i:]} {
			rows, _ := model.State(l, part) // it refuses no changes that may be
			out = append(out, rows)
		}
	}
	return out
}

// NoStates tells rows by a schema that are no state, of at most two things that are wrong.
func NoStates(l []api.Group) [][]api.Row {
	x := api.Cell{Stamp: api.Stamp{N: 5, Site: 1}, Vec: api.Vec{1, 0}, Value: "x"}
	a, k, k0, m, bare := One(l, "a", 0, x), One(l, "k", 0, x), One(l, "k\x00", 0, x), One(l, "\x80", len(l)-1, x), One(l, "k", 0, api.Cell{})
	out := [][]api.Row{
		{bare}, {bare, m}, {a, bare}, {a, bare, m}, {bare, bare}, // a bare one
		{k, k}, {a, k, k}, {k, k, m}, {k, bare}, // the same key
		{k, a}, {m, k}, {k0, k}, {a, m, k}, {k, a, m}, {m, k, a}, {a, k0, k}, {a, k, a}, // keys that fall
	}
	for _, x := range NoRows(l) {
		out = append(out, []api.Row{x.Row}, []api.Row{a, x.Row}, []api.Row{x.Row, m}, []api.Row{a, x.Row, m}, []api.Row{bare, x.Row}, []api.Row{x.Row, bare}, []api.Row{m, a, x.Row}, []api.Row{x.Row, m, a}, []api.Row{m, x.Row})
	}
	return out
}

// RoomyRows tells rows of a schema with spare room behind them and behind their cells, full of what could be taken for more, and a check whether all that memory stays as it is.
func RoomyRows(l []api.Group, rows []api.Row) ([]api.Row, func() bool) {
	spare := api.Cell{Stamp: api.Stamp{N: 99, Site: 2}, Vec: api.Vec{9, 9}, Value: "spare"}
	part, whole := Roomy(rows, One(l, "\xff\xff\xff\xff", 0, spare))
	var cells, before [][]api.Cell
	for i := range part {
		own, all := Roomy(part[i].Cells, spare)
		part[i].Cells = own
		cells, before = append(cells, all), append(before, slices.Clone(all))
	}
	wholeBefore := slices.Clone(whole)
	return part, func() bool {
		for i, all := range cells {
			if !slices.Equal(all, before[i]) || &part[i].Cells[:1][0] != &all[0] {
				return false
			}
		}
		return SameRows(whole, wholeBefore)
	}
}
