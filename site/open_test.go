package site_test

import (
	"fmt"
	"maps"
	"math"
	"slices"
	"testing"

	"gemel/api"
	"gemel/disk"
	"gemel/probe"
	"gemel/site"
)

// wantNotOpened wants that no site is opened, and that the files stay.
func wantNotOpened(t *testing.T, c site.Conf, d *disk.Disk, want api.Errno) {
	t.Helper()
	var before map[string]string
	if d.On() {
		before = probe.Files(d)
	}
	if s, e := site.Open(c, d); s != nil || e != want {
		t.Fatalf("Open(%v) = a site %t, %d, want %d", c, s != nil, int(e), int(want))
	}
	if d.On() && !maps.Equal(probe.Files(d), before) {
		t.Fatalf("Open(%v): files %q, want %q", c, probe.Files(d), before)
	}
}

// unlike tells how a site is set up that is set up as another one but for something.
func unlike(c site.Conf, spoil func(c *site.Conf)) site.Conf {
	spoil(&c)
	return c
}

// noDisks tells what is no disk with power, with what is answered of it.
func noDisks() map[*disk.Disk]api.Errno {
	off := disk.New(1000)
	off.Fail(0)
	return map[*disk.Disk]api.Errno{nil: api.ErrNil, {}: api.ErrNil, off: api.ErrPower}
}

func TestOpenErrorsInOrder(t *testing.T) { // P26.1
	l := groups()
	good := conf(l, 1)
	var window []site.Conf
	for _, n := range []int{0, -1, api.MaxFlight + 1, math.MinInt, math.MaxInt} {
		window = append(window, unlike(good, func(c *site.Conf) { c.Flight = n }))
	}
	for _, n := range []int{0, -1, api.MaxWait + 1, math.MinInt, math.MaxInt} {
		window = append(window, unlike(good, func(c *site.Conf) { c.Wait = n }))
	}
	disks := noDisks()
	disks[disk.New(1000)] = api.ErrArg
	for d, e := range disks {
		for _, n := range nobody { // ahead of all others
			wantNotOpened(t, site.Conf{Site: n}, d, api.ErrArg)
			wantNotOpened(t, unlike(good, func(c *site.Conf) { c.Site = n }), d, api.ErrArg)
			wantNotOpened(t, unlike(conf(probe.NoSchemas()[2].Groups, 1), func(c *site.Conf) { c.Site = n }), d, api.ErrArg)
		}
		for _, c := range window { // then the window's
			wantNotOpened(t, c, d, api.ErrArg)
			wantNotOpened(t, unlike(c, func(c *site.Conf) { c.Groups = probe.NoSchemas()[2].Groups }), d, api.ErrArg)
		}
		for _, x := range probe.NoSchemas() { // then the store's, in its order
			wantNotOpened(t, conf(x.Groups, 2), d, x.Err)
			wantNotOpened(t, unlike(conf(x.Groups, 2), func(c *site.Conf) { c.Size = 0 }), d, x.Err)
		}
		for _, n := range []int{0, -1, api.MaxFile + 1, math.MinInt, math.MaxInt} {
			wantNotOpened(t, unlike(good, func(c *site.Conf) { c.Size = n }), d, e)
		}
		if e != api.ErrArg {
			wantNotOpened(t, good, d, e)
		}
	}
}

func TestOpenLimits(t *testing.T) { // P26.1
	for _, c := range []site.Conf{{Site: 1, Size: 1, Flight: 1, Wait: 1}, {Site: 2, Size: api.MaxFile, Flight: api.MaxFlight, Wait: api.MaxWait}} {
		c.Groups = groups()
		if s := open(t, c, disk.New(0)); !s.On() {
			t.Error("it is not on")
		}
	}
}

func TestOpenStoreErrors(t *testing.T) { // P26.1: ahead of ErrSite
	l := groups()
	bad := note("front", "x")
	d := laid(t, l, nil, bad)
	name := d.Names()[0]
	b, _ := d.Read(name)
	torn := probe.Disk(map[string]string{name: string(b) + "x", "w000000000005": ""})
	wantNotOpened(t, conf(l, 1), torn, api.ErrLog)
	unlikeL := []api.Group{{Name: "b", Policy: api.DeleteWins}, {Name: "a", Policy: api.LastWins}}
	rows := []api.Row{probe.One(l, "k", 0, api.Cell{Stamp: api.Stamp{N: 1, Site: 1}, Gone: true})}
	wantNotOpened(t, conf(unlikeL, 1), laid(t, l, rows, bad), api.ErrStore) // by that schema it is no row
	wantNotOpened(t, conf(l, 1), laid(t, l, rows, bad), api.ErrSite)
	armed := laid(t, l, rows, bad)
	armed.Arm(0, 0)
	wantNotOpened(t, conf(l, 1), armed, api.ErrPower)
}

func TestOpenFront(t *testing.T) { // P26.1: the note front
	l := groups()
	lay := func(n ...int) string {
		var b []byte
		for _, x := range n {
			b = append(b, probe.Laid(x)...)
		}
		return string(b)
	}
	texts := []string{"x", "\xff", "5 0 0 0", "\x00\x00\x00\x40", "\x00\x00\x00\x40\x00", "\x00\x00\x00\x00x", "\x40\x00\x00\x00\x00", lay(0), lay(0, 0), lay(2, 1, 0), lay(2, 1, 0, 0, 0), lay(2, 1, 2, 3, 4, 5, 6, 7)}
	for _, f := range [][]int{
		{0, 1, 0, 0}, {1, 2, 0, 0}, {2, 3, 1, 5}, // Stable is above Acked
		{0, 0, 1, 5}, {1, 0, 2, 5}, // Wait is
		{1, 0, 1, 0}, {2, 1, 2, 0}, // one waits, for nothing
		{2, 0, 2, api.MaxSeq + 1}, {api.MaxSeq + 1, 0, 0, 0}, {api.MaxSeq + 1, api.MaxSeq + 1, api.MaxSeq + 1, 9}, {2, 0, 0, api.MaxNum},
	} {
		texts = append(texts, lay(f...))
	}
	for _, n := range []int{1, 2} {
		for _, text := range texts {
			for acked := range 3 {
				notes := known(l, n, acked, 2, 0)
				notes[1].Text = text
				wantNotOpened(t, conf(l, n), laid(t, l, nil, notes...), api.ErrSite)
			}
		}
		notes := known(l, n, 0, 2, 0) // without the note: as of 0
		open(t, conf(l, n), laid(t, l, nil, slices.Delete(notes, 1, 2)...))
	}
}

func TestOpenLow(t *testing.T) { // P26.1: the note low
	l := groups()
	for _, text := range []string{"x", "\x05", "\x05\x40", "\x05\x06\x00", "\x05\x06\x07", "\x40\x05\x06", "\x05\x40\x06", "5 6", "\xff", "\xc0\x00\x01\x00\x00\x00\x00\x01\x00", "\x00\xc0\x00\x01\x00\x00\x00\x00\x01"} {
		for _, notes := range [][]api.Note{nil, known(l, 1, 1, 3, 4)} {
			wantNotOpened(t, conf(l, 1), laid(t, l, nil, append(notes, note("low", text))...), api.ErrSite)
		}
	}
}

func TestOpenOwn(t *testing.T) { // P26.1: the notes whose names begin with o
	l := groups()
	for _, n := range []int{1, 2} {
		one := func(seq int) api.Note { return ownNote(l, by(n, seq, put("k", 0, fmt.Sprint(seq)))) }
		for acked := range 4 {
			notes := known(l, n, acked, 5, 3) // two at least
			open(t, conf(l, n), laid(t, l, nil, notes...))
			first := notes[2]
			for at := 2; at < len(notes); at++ { // one is not there, or something else is
				wantNotOpened(t, conf(l, n), laid(t, l, nil, slices.Delete(slices.Clone(notes), at, at+1)...), api.ErrSite)
				for _, text := range []string{"x", notes[at].Text + "\x00", notes[at].Text[1:], first.Text + first.Text, one(9).Text, ownNote(l, by(3-n, acked+at-1, put("k", 0, "x"))).Text} {
					other := slices.Clone(notes)
					other[at].Text = text
					wantNotOpened(t, conf(l, n), laid(t, l, nil, other...), api.ErrSite)
				}
			}
			more := []api.Note{one(6), one(7), note("o", "x"), note("o5", first.Text), note("other", "x"), note("ozzz", first.Text), note("o00000000000001", first.Text)}
			if acked > 0 {
				more = append(more, one(acked))
			}
			for _, x := range more { // one that has no place there
				wantNotOpened(t, conf(l, n), laid(t, l, nil, append(slices.Clone(notes), x)...), api.ErrSite)
			}
			wantNotOpened(t, conf(l, n), laid(t, l, nil, notes[1:]...), api.ErrSite) // without know: of (0, 0)
			wantNotOpened(t, conf(l, 3-n), laid(t, l, nil, notes...), api.ErrSite)   // the other site's
			if acked > 0 {                                                           // as many, but not those
				wantNotOpened(t, conf(l, n), laid(t, l, nil, append(slices.Clone(notes[:len(notes)-1]), one(acked))...), api.ErrSite)
			}
			wantNotOpened(t, conf(l, n), laid(t, l, nil, append(slices.Delete(slices.Clone(notes), 2, 3), one(6))...), api.ErrSite)
			moved := slices.Clone(notes)
			moved[1] = frontNote(acked+1, 0, 0, 0)
			wantNotOpened(t, conf(l, n), laid(t, l, nil, moved...), api.ErrSite)
		}
		wantNotOpened(t, conf(l, n), laid(t, l, nil, known(l, n, 6, 5, 9)...), api.ErrSite) // answered is what was not written
		wantNotOpened(t, conf(l, n), laid(t, l, nil, frontNote(1, 0, 0, 0)), api.ErrSite)
		open(t, conf(l, n), laid(t, l, nil, known(l, n, 5, 5, 0)...))
	}
}
