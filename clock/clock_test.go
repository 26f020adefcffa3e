package clock_test

import (
	"math"
	"math/rand/v2"
	"testing"

	"gemel/api"
	"gemel/clock"
)

// may are stamps that may be, each later than the one ahead of it.
var may = []api.Stamp{{}, {N: 1, Site: 1}, {N: 1, Site: 2}, {N: 2, Site: 1}, {N: 5, Site: 1}, {N: 5, Site: 2}, {N: 6, Site: 1}, {N: 1 << 32, Site: 2}, {N: api.MaxTime - 1, Site: 2}, {N: api.MaxTime, Site: 1}, {N: api.MaxTime, Site: 2}, {N: api.MaxTime + 1, Site: 1}, {N: api.MaxCount - 2, Site: 2}, {N: api.MaxCount - 1, Site: 1}, {N: api.MaxCount - 1, Site: 2}, {N: api.MaxCount, Site: 1}, {N: api.MaxCount, Site: 2}}

// mayNot are stamps that may not be.
var mayNot = []api.Stamp{{N: 1}, {Site: 1}, {Site: 2}, {N: 5, Site: 3}, {N: 5, Site: -1}, {N: -1, Site: 1}, {N: -1}, {N: api.MaxCount + 1, Site: 2}, {N: math.MaxInt, Site: 1}, {N: math.MinInt, Site: 2}, {N: 5, Site: math.MaxInt}, {N: 5, Site: 1<<32 + 1}}

// times are those of ticks, and ones far from all.
var times = []int{math.MinInt, -1 << 40, -1, 0, 1, 2, 3, 4, 5, 6, 7, 1<<32 - 1, 1 << 32, 1<<32 + 1, api.MaxTime - 1, api.MaxTime, api.MaxTime + 1, api.MaxCount - 1, api.MaxCount, api.MaxCount + 1, 1 << 62, math.MaxInt - 1, math.MaxInt}

// nextOf tells what a site's next stamp is to be behind a last one that may be, or the error (doc/05-stamp.md).
func nextOf(last api.Stamp, now, site int) (api.Stamp, api.Errno) {
	switch {
	case now < 1:
		now = 1
	case now > 1<<40:
		now = 1 << 40
	}
	if last.N >= 1<<48 {
		return api.Stamp{}, api.ErrClock
	}
	return api.Stamp{N: max(last.N+1, now), Site: site}, api.OK
}

// made tells a site's clock that has this last stamp.
func made(t *testing.T, site int, last api.Stamp) *clock.Clock {
	t.Helper()
	c, e := clock.New(site, last)
	if c == nil || e != api.OK {
		t.Fatalf("New(%d, %v): %d", site, last, int(e))
	}
	return c
}

// want wants what a clock tells of itself.
func want(t *testing.T, c *clock.Clock, last api.Stamp, told int) {
	t.Helper()
	if c.Last() != last || c.Told() != told {
		t.Fatalf("Last %v, Told %d, want %v, %d", c.Last(), c.Told(), last, told)
	}
}

// wantTick wants that Peek tells a stamp and changes nothing, and that Tick tells it then.
func wantTick(t *testing.T, c *clock.Clock, now int, stamp api.Stamp, e api.Errno) {
	t.Helper()
	last, told := c.Last(), c.Told()
	for range 2 {
		if s, got := c.Peek(now); s != stamp || got != e {
			t.Fatalf("Peek(%d) behind %v = %v, %d, want %v, %d", now, last, s, int(got), stamp, int(e))
		}
		want(t, c, last, told)
	}
	if s, got := c.Tick(now); s != stamp || got != e {
		t.Fatalf("Tick(%d) behind %v = %v, %d, want %v, %d", now, last, s, int(got), stamp, int(e))
	}
	if e == api.OK {
		last, told = stamp, told+1
	}
	want(t, c, last, told)
}

func wantMeet(t *testing.T, c *clock.Clock, s api.Stamp, e api.Errno) {
	t.Helper()
	if got := c.Meet(s); got != e {
		t.Fatalf("Meet(%v) = %d, want %d", s, int(got), int(e))
	}
}

func TestNew(t *testing.T) { // P17.1 and P17.2
	for _, last := range may {
		for _, site := range []int{1, 2} {
			want(t, made(t, site, last), last, 0)
		}
	}
}

func TestNewErrors(t *testing.T) { // P17.1
	wantNone := func(site int, last api.Stamp) {
		if c, e := clock.New(site, last); c != nil || e != api.ErrArg {
			t.Errorf("New(%d, %v): %t, %d", site, last, c != nil, int(e))
		}
	}
	for _, site := range []int{math.MinInt, -2, -1, 0, 3, 4, 257, 1<<32 + 1, math.MaxInt} {
		for _, last := range append(may, mayNot...) {
			wantNone(site, last)
		}
	}
	for _, last := range mayNot {
		wantNone(1, last)
		wantNone(2, last)
	}
}

func TestExample(t *testing.T) { // the chapter's
	c := made(t, 2, api.Stamp{})
	wantMeet(t, c, api.Stamp{N: 5, Site: 1}, api.OK)
	wantTick(t, c, 3, api.Stamp{N: 6, Site: 2}, api.OK)
	wantTick(t, c, 9, api.Stamp{N: 9, Site: 2}, api.OK)
	wantTick(t, c, 0, api.Stamp{N: 10, Site: 2}, api.OK)
	want(t, c, api.Stamp{N: 10, Site: 2}, 3)
}

func TestTick(t *testing.T) { // P17.1, P17.2 and P17.4: of either site, behind stamps of either site
	for _, last := range may {
		for _, site := range []int{1, 2} {
			for _, now := range times {
				s, e := nextOf(last, now, site)
				wantTick(t, made(t, site, last), now, s, e)
			}
		}
	}
}

func TestTickAround(t *testing.T) { // P17.1: below, at and above the last stamp's number
	for _, site := range []int{1, 2} {
		for _, other := range []int{1, 2} {
			c := made(t, site, api.Stamp{N: 100, Site: other})
			for i, x := range [][2]int{{99, 101}, {101, 102}, {102, 103}, {104, 104}, {105, 105}, {-5, 106}, {106, 107}, {1000, 1000}, {1, 1001}} {
				wantTick(t, c, x[0], api.Stamp{N: x[1], Site: site}, api.OK)
				want(t, c, api.Stamp{N: x[1], Site: site}, i+1)
			}
		}
	}
}

func TestTickAtEnd(t *testing.T) { // P17.1 and P17.2: what is refused counts for nothing
	for _, site := range []int{1, 2} {
		c := made(t, site, api.Stamp{N: api.MaxCount - 2, Site: 3 - site})
		wantTick(t, c, math.MaxInt, api.Stamp{N: api.MaxCount - 1, Site: site}, api.OK)
		wantTick(t, c, 0, api.Stamp{N: api.MaxCount, Site: site}, api.OK)
		for _, now := range times {
			wantTick(t, c, now, api.Stamp{}, api.ErrClock)
		}
		want(t, c, api.Stamp{N: api.MaxCount, Site: site}, 2)
		wantMeet(t, c, api.Stamp{N: 1, Site: 1}, api.OK)
		wantTick(t, c, 5, api.Stamp{}, api.ErrClock)
	}
}

func TestPeek(t *testing.T) { // P17.4: of any times, ahead of a Tick of another one
	c := made(t, 1, api.Stamp{N: 7, Site: 2})
	for _, now := range times {
		s, e := nextOf(api.Stamp{N: 7, Site: 2}, now, 1)
		if got, fault := c.Peek(now); got != s || fault != e {
			t.Errorf("Peek(%d) = %v, %d", now, got, int(fault))
		}
		want(t, c, api.Stamp{N: 7, Site: 2}, 0)
	}
	wantTick(t, c, 0, api.Stamp{N: 8, Site: 1}, api.OK)
}

func TestMeet(t *testing.T) { // P17.1 and P17.2: the later one, and Tick behind it
	for i, last := range may {
		for k, s := range may {
			for _, site := range []int{1, 2} {
				c := made(t, site, last)
				wantMeet(t, c, s, api.OK)
				later := may[max(i, k)]
				want(t, c, later, 0)
				next, e := nextOf(later, 3, site)
				wantTick(t, c, 3, next, e)
			}
		}
	}
}

func TestMeetOfBad(t *testing.T) { // P17.1
	for _, last := range may {
		for _, site := range []int{1, 2} {
			c := made(t, site, last)
			for _, s := range mayNot {
				wantMeet(t, c, s, api.ErrArg)
				want(t, c, last, 0)
			}
			next, e := nextOf(last, 0, site)
			wantTick(t, c, 0, next, e)
		}
	}
}

func TestNoClock(t *testing.T) { // P17.1 and P17.2: a Clock that no call made
	var none *clock.Clock
	var zero clock.Clock
	bad, _ := clock.New(0, api.Stamp{})
	for _, c := range []*clock.Clock{none, &zero, {}, bad} {
		for range 2 {
			for _, now := range times {
				if s, e := c.Tick(now); s != (api.Stamp{}) || e != api.ErrNil {
					t.Errorf("Tick(%d) = %v, %d", now, s, int(e))
				}
				if s, e := c.Peek(now); s != (api.Stamp{}) || e != api.ErrNil {
					t.Errorf("Peek(%d) = %v, %d", now, s, int(e))
				}
			}
			for _, s := range append(may, mayNot...) {
				wantMeet(t, c, s, api.ErrNil)
			}
			want(t, c, api.Stamp{}, 0)
		}
	}
}

// before tells in another way than stamp does whether a stamp is ahead of another one.
func before(a, b api.Stamp) bool {
	return a.N < b.N || a.N == b.N && a.Site < b.Site
}

func TestRise(t *testing.T) { // P17.3: whatever is met, and whatever the time is
	r := rand.New(rand.NewPCG(171, 172))
	for turn := range 200 {
		site := 1 + turn%2
		c := made(t, site, api.Stamp{})
		var latest api.Stamp // of all that was told or met
		told := 0
		for range 100 {
			now := 1 + r.IntN(1+turn)
			if r.IntN(3) == 0 {
				s := api.Stamp{N: now, Site: 1 + r.IntN(2)}
				wantMeet(t, c, s, api.OK)
				if before(latest, s) {
					latest = s
				}
				want(t, c, latest, told)
				continue
			}
			s, e := c.Tick(now - r.IntN(5))
			if e != api.OK || !before(latest, s) || s.Site != site {
				t.Fatalf("Tick of site %d = %v, %d, behind %v", site, s, int(e), latest)
			}
			latest = s
			told++
			want(t, c, latest, told)
		}
	}
}

func TestClocksApart(t *testing.T) { // rule 5: what a clock tells hangs on what was done to it alone
	a, b := made(t, 1, api.Stamp{}), made(t, 1, api.Stamp{})
	wantTick(t, a, 9, api.Stamp{N: 9, Site: 1}, api.OK)
	wantMeet(t, a, api.Stamp{N: 20, Site: 2}, api.OK)
	want(t, b, api.Stamp{}, 0)
	wantTick(t, b, 4, api.Stamp{N: 4, Site: 1}, api.OK)
	want(t, a, api.Stamp{N: 20, Site: 2}, 1)
}
