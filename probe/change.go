package probe

import (
	"slices"
	"strings"

	"gemel/api"
)

const changeCount = 8 // of Changes

// Changes tells some by a schema that may be, four of each site in turns: of few places, values and deletes, ones that know of one another and ones that don't.
func Changes(l []api.Group) []api.Change {
	var out []api.Change
	for i := range changeCount {
		site, seq := api.SiteA+i%2, 1+i/2
		c := api.Change{Site: site, Seq: seq, Stamp: api.Stamp{N: 3*seq - site*(seq%2), Site: site}}
		c.Vec[site-1] = seq
		c.Vec[2-site] = (i + 1) / 3
		c.Writes = writes(places(l), i)
		out = append(out, c)
	}
	return out
}

// places tells places of a schema in order, of which each change writes some.
func places(l []api.Group) []api.Write {
	var out []api.Write
	for _, key := range []string{"\x00", "k", "k\x00", "kk", "\x7f", "\x80", "\xff", "\xff\x00", "\xff\xff"} {
		for group := range l {
			out = append(out, api.Write{Key: key, Group: group})
		}
	}
	return out
}

// writes tells the writes of a change of Changes.
func writes(places []api.Write, i int) []api.Write {
	var out []api.Write
	for at, w := range places {
		if len(out) == api.MaxWrites || (at+1)*(i+1)%11 > 6 {
			continue
		}
		if w.Gone = (at+3*i)%5 < 2; !w.Gone {
			w.Value = strings.Repeat("v", at%3) + string(rune('0'+i))
		}
		out = append(out, w)
	}
	return out
}

// NoChanges tells some that may not be by a schema, most of them for one thing alone.
func NoChanges(l []api.Group) []api.Change {
	out := []api.Change{{}}
	for _, spoil := range []func(c *api.Change){
		func(c *api.Change) { c.Site = 0 },
		func(c *api.Change) { c.Site = 3 - c.Site },
		func(c *api.Change) { c.Seq++ },
		func(c *api.Change) { c.Seq, c.Vec[c.Site-1] = 0, 0 },
		func(c *api.Change) { c.Seq, c.Vec[c.Site-1] = api.MaxSeq+1, api.MaxSeq+1 },
		func(c *api.Change) { c.Stamp = api.Stamp{} },
		func(c *api.Change) { c.Stamp.N = api.MaxCount + 1 },
		func(c *api.Change) { c.Stamp.Site = 3 - c.Site },
		func(c *api.Change) { c.Vec[c.Site-1]++ },
		func(c *api.Change) { c.Vec[2-c.Site] = -1 },
		func(c *api.Change) { c.Writes = nil },
		func(c *api.Change) { c.Writes = append(c.Writes, c.Writes[len(c.Writes)-1]) },
		func(c *api.Change) { slices.Reverse(c.Writes) },
		func(c *api.Change) { c.Writes = places(l)[:api.MaxWrites+1] },
		func(c *api.Change) { c.Writes[0].Key = "" },
		func(c *api.Change) { c.Writes[1].Key += strings.Repeat("k", api.MaxKey) },
		func(c *api.Change) { c.Writes[1].Group = len(l) },
		func(c *api.Change) { c.Writes[0].Group = -1 },
		func(c *api.Change) { c.Writes[0].Gone, c.Writes[0].Value = false, strings.Repeat("v", api.MaxValue+1) },
		func(c *api.Change) { c.Writes[0].Gone, c.Writes[0].Value = true, "x" },
	} {
		c := Changes(l)[1]
		spoil(&c)
		out = append(out, c)
	}
	return out
}
