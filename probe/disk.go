package probe

import (
	"maps"
	"slices"

	"gemel/api"
	"gemel/disk"
)

// Ample is room for whatever files a disk has.
const Ample = 1 << 30

// Disk tells a disk with these files, all sure; nil, if one of them can't be there.
func Disk(files map[string]string) *disk.Disk {
	d := disk.New(Ample)
	for _, name := range slices.Sorted(maps.Keys(files)) {
		for _, e := range [...]api.Errno{d.Make(name), d.Append(name, []byte(files[name])), d.Sync(name)} {
			if e != api.OK {
				return nil
			}
		}
	}
	return d
}

// Files tells all files of a disk.
func Files(d *disk.Disk) map[string]string {
	out := map[string]string{}
	for _, name := range d.Names() {
		b, _ := d.Read(name)
		out[name] = string(b)
	}
	return out
}
