package probe_test

import (
	"testing"

	"gemel/api"
	"gemel/change"
	"gemel/probe"
)

func TestChanges(t *testing.T) {
	for _, l := range probe.Schemas() {
		writes, places := 0, map[api.Write]int{}
		values, deletes := 0, 0
		for i, c := range probe.Changes(l) {
			if e := change.Good(l, c); e != api.OK || c.Site != 1+i%2 || c.Seq != 1+i/2 {
				t.Errorf("%v: %d", c, int(e))
			}
			writes += len(c.Writes)
			for _, w := range c.Writes {
				places[api.Write{Key: w.Key, Group: w.Group}]++
				if w.Gone {
					deletes++
				} else {
					values++
				}
			}
		}
		if 3*len(places) > 2*writes || 5*values < writes || 5*deletes < writes {
			t.Errorf("%d writes, %d values and %d deletes, of %d places", writes, values, deletes, len(places))
		}
	}
}

func TestNoChanges(t *testing.T) {
	for _, l := range probe.Schemas() {
		for i, c := range probe.NoChanges(l) {
			if e := change.Good(l, c); e != api.ErrChange {
				t.Errorf("%d: %v: %d", i, c, int(e))
			}
		}
	}
}
