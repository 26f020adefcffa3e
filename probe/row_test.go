package probe_test

import (
	"testing"

	"gemel/api"
	"gemel/probe"
	"gemel/row"
)

func TestNoRows(t *testing.T) {
	for _, l := range probe.Schemas() {
		errs := map[api.Errno]int{}
		for _, x := range probe.NoRows(l) {
			errs[x.Err]++
			if e := row.Good(l, x.Row); e != x.Err || e == api.OK {
				t.Errorf("%v: %d, want %d", x.Row, int(e), int(x.Err))
			}
		}
		if len(errs) != 4 {
			t.Errorf("errors %v", errs)
		}
	}
}
