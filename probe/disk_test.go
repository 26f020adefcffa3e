package probe_test

import (
	"maps"
	"testing"

	"gemel/api"
	"gemel/probe"
)

func TestDisk(t *testing.T) {
	for _, files := range []map[string]string{{}, {"a": ""}, {"a": "x", "b": "", "c1": "\xb5some bytes"}} {
		d := probe.Disk(files)
		if !d.On() || !maps.Equal(probe.Files(d), files) {
			t.Errorf("files %q, want %q", probe.Files(d), files)
		}
		d.Fail(0)
		d.Power()
		if !maps.Equal(probe.Files(d), files) {
			t.Errorf("sure are %q, want %q", probe.Files(d), files)
		}
	}
	if probe.Disk(map[string]string{"a": "x", "B": "y"}) != nil || probe.Disk(map[string]string{"a": string(make([]byte, api.MaxFile+1))}) != nil {
		t.Error("a disk of files that can't be there")
	}
}
