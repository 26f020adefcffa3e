package probe

import (
	"slices"
	"strings"

	"gemel/api"
)

// NoRow is a row that is not good, with what row says of it.
type NoRow struct {
	Row api.Row
	Err api.Errno
}

// NoRows tells some by a schema, for each of row's errors but policy's, alone and with those that are told behind it.
func NoRows(l []api.Group) []NoRow {
	may, bad := api.Cell{Stamp: api.Stamp{N: 5, Site: 1}, Vec: api.Vec{1, 0}, Value: "x"}, api.Cell{Gone: true}
	long := strings.Repeat("k", api.MaxKey+1)
	var out []NoRow
	for _, c := range []api.Cell{{}, may, bad} {
		for _, size := range []int{len(l), 0, len(l) - 1, len(l) + 1} {
			cells := slices.Repeat([]api.Cell{c}, size)
			out = append(out, NoRow{api.Row{Key: "", Cells: cells}, api.ErrArg}, NoRow{api.Row{Key: long, Cells: cells}, api.ErrLong})
			if size != len(l) {
				out = append(out, NoRow{api.Row{Key: "k", Cells: cells}, api.ErrRow})
			}
		}
	}
	for i := range l {
		cells := slices.Repeat([]api.Cell{may}, len(l))
		cells[i] = bad
		out = append(out, NoRow{api.Row{Key: "k", Cells: cells}, api.ErrCell})
	}
	return out
}
