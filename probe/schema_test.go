package probe_test

import (
	"testing"

	"gemel/api"
	"gemel/policy"
	"gemel/probe"
)

func TestSchemas(t *testing.T) {
	sizes := map[int]int{}
	for _, l := range probe.Schemas() {
		sizes[len(l)]++
		if e := policy.Good(l); e != api.OK {
			t.Errorf("%v: %d", l, int(e))
		}
	}
	if len(sizes) != api.MaxGroups {
		t.Errorf("schemas of %v groups", sizes)
	}
	if s, e := policy.Print(probe.Schemas()[2]); s != "a=last,b=delete" || e != api.OK {
		t.Errorf("the third one is %q, %d", s, int(e))
	}
}

func TestNoSchemas(t *testing.T) {
	errs := map[api.Errno]int{}
	for _, x := range probe.NoSchemas() {
		errs[x.Err]++
		if e := policy.Good(x.Groups); e != x.Err || e == api.OK {
			t.Errorf("%v: %d, want %d", x.Groups, int(e), int(x.Err))
		}
	}
	if len(errs) != 3 {
		t.Errorf("errors %v", errs)
	}
}
