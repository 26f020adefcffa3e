package frontier_test

import (
	"math"
	"testing"

	"gemel/api"
	"gemel/frontier"
)

const most = api.MaxSeq

// nobody is numbers that are no site's, outside numbers of which there are no changes.
var (
	nobody  = []int{0, 3, 4, -1, -2, 257, 1<<32 + 1, math.MinInt, math.MaxInt}
	outside = []int{-1, -2, -most, math.MinInt, most + 1, most + 2, 1<<62 + 1, math.MaxInt}
)

// front tells a front.
func front(site, acked, stable, wait, until int) frontier.Front {
	return frontier.Front{Site: site, Acked: acked, Stable: stable, Wait: wait, Until: until}
}

// vecOf tells counts, of a site and of the other one.
func vecOf(site, mine, theirs int) api.Vec {
	if site == 2 {
		return api.Vec{theirs, mine}
	}
	return api.Vec{mine, theirs}
}

// of tells the count of a site in counts.
func of(site int, v api.Vec) int {
	return map[int]int{1: v[0], 2: v[1]}[site]
}

// mayBe tells in another way than the program does whether a front may be.
func mayBe(f frontier.Front) bool {
	for _, n := range []int{f.Acked, f.Stable, f.Wait, f.Until} {
		if !(-1 < n && n < 1<<40+1) {
			return false
		}
	}
	if f.Acked < f.Stable || f.Acked < f.Wait || f.Until == 0 && f.Wait != 0 {
		return false
	}
	return f.Site == 1 || f.Site == 2
}

// fronts tells all fronts of these sites and numbers that may be, and all that may not.
func fronts(sites, numbers []int) (good, bad []frontier.Front) {
	for _, site := range sites {
		for _, acked := range numbers {
			for _, stable := range numbers {
				for _, wait := range numbers {
					for _, until := range numbers {
						if f := front(site, acked, stable, wait, until); mayBe(f) {
							good = append(good, f)
						} else {
							bad = append(bad, f)
						}
					}
				}
			}
		}
	}
	return good, bad
}

// badVecs are counts that are not good.
func badVecs() []api.Vec {
	var out []api.Vec
	for _, n := range outside {
		out = append(out, api.Vec{n, 5}, api.Vec{5, n}, api.Vec{n, n}, api.Vec{n, most})
	}
	return out
}

// wantLearn wants that Learn tells just that.
func wantLearn(t *testing.T, f frontier.Front, know api.Vec, ack, own int, want frontier.Front) {
	t.Helper()
	if got, e := frontier.Learn(f, know, ack, own); got != want || e != api.OK {
		t.Fatalf("Learn(%v, %v, %d, %d) = %v, %d, want %v", f, know, ack, own, got, int(e), want)
	}
	if !frontier.Good(want) {
		t.Fatalf("Learn(%v, %v, %d, %d) = %v, which may not be", f, know, ack, own, want)
	}
}

// wantSettle wants that Settle tells just that.
func wantSettle(t *testing.T, f frontier.Front, know api.Vec, want frontier.Front) {
	t.Helper()
	if got, e := frontier.Settle(f, know); got != want || e != api.OK {
		t.Fatalf("Settle(%v, %v) = %v, %d, want %v", f, know, got, int(e), want)
	}
}

// wantStable wants that Stable tells just that.
func wantStable(t *testing.T, f frontier.Front, know, want api.Vec) {
	t.Helper()
	if got, e := frontier.Stable(f, know); got != want || e != api.OK {
		t.Fatalf("Stable(%v, %v) = %v, %d, want %v", f, know, got, int(e), want)
	}
}

// wantRefused wants that Settle and Stable refuse that, and Learn with whatever ack and own.
func wantRefused(t *testing.T, f frontier.Front, know api.Vec) {
	t.Helper()
	if got, e := frontier.Settle(f, know); got != (frontier.Front{}) || e != api.ErrArg {
		t.Fatalf("Settle(%v, %v) = %v, %d", f, know, got, int(e))
	}
	if got, e := frontier.Stable(f, know); got != (api.Vec{}) || e != api.ErrArg {
		t.Fatalf("Stable(%v, %v) = %v, %d", f, know, got, int(e))
	}
	for _, x := range [][2]int{{0, 0}, {1, 1}, {1, 9}, {-1, 0}, {0, -1}, {math.MaxInt, math.MaxInt}} {
		wantUnlearnt(t, f, know, x[0], x[1])
	}
}

// wantUnlearnt wants that Learn refuses that.
func wantUnlearnt(t *testing.T, f frontier.Front, know api.Vec, ack, own int) {
	t.Helper()
	if got, e := frontier.Learn(f, know, ack, own); got != (frontier.Front{}) || e != api.ErrArg {
		t.Fatalf("Learn(%v, %v, %d, %d) = %v, %d", f, know, ack, own, got, int(e))
	}
}

func TestNew(t *testing.T) { // P23.1
	for _, site := range []int{1, 2} {
		if f, e := frontier.New(site); f != front(site, 0, 0, 0, 0) || e != api.OK {
			t.Errorf("New(%d) = %v, %d", site, f, int(e))
		}
	}
	for _, site := range nobody {
		if f, e := frontier.New(site); f != (frontier.Front{}) || e != api.ErrArg {
			t.Errorf("New(%d) = %v, %d", site, f, int(e))
		}
	}
}

func TestGood(t *testing.T) { // P23.1
	for f, want := range map[frontier.Front]bool{
		{}:                               false,
		front(1, 0, 0, 0, 0):             true,
		front(2, 0, 0, 0, 0):             true,
		front(0, 0, 0, 0, 0):             false,
		front(3, 0, 0, 0, 0):             false,
		front(1, 3, 3, 3, 1):             true,
		front(1, 3, 4, 3, 1):             false,
		front(1, 3, 3, 4, 1):             false,
		front(1, 3, 0, 3, 9):             true, // Until is no count of what was answered
		front(1, 3, 3, 2, 1):             true,
		front(1, 3, 0, 1, 0):             false, // Wait is not 0, though Until is
		front(1, 3, 0, 0, 0):             true,
		front(1, 3, 0, 0, 7):             true, // and not the other way round
		front(1, 0, 0, 0, 7):             true,
		front(1, most, most, most, most): true,
		front(1, most+1, 0, 0, 0):        false,
		front(1, most, 0, 0, most+1):     false,
		front(2, most, most+1, 0, 1):     false,
		front(2, most, 0, most+1, 1):     false,
		front(2, -1, 0, 0, 0):            false,
		front(2, 0, -1, 0, 0):            false,
		front(2, 0, 0, -1, 1):            false,
		front(2, 0, 0, 0, -1):            false,
		front(2, -1, -1, -1, -1):         false,
	} {
		if frontier.Good(f) != want {
			t.Errorf("Good(%v) = %t", f, !want)
		}
	}
	good, bad := fronts(append(nobody[:3:3], 1, 2, math.MinInt, math.MaxInt), []int{math.MinInt, -1, 0, 1, 2, most - 1, most, most + 1, math.MaxInt})
	for _, f := range good {
		if !frontier.Good(f) {
			t.Fatalf("Good(%v) = false", f)
		}
	}
	for _, f := range bad {
		if frontier.Good(f) {
			t.Fatalf("Good(%v) = true", f)
		}
	}
}

func TestExample(t *testing.T) { // the chapter's
	f, _ := frontier.New(api.SiteA)
	wantLearn(t, f, api.Vec{3, 1}, 2, 2, front(1, 2, 0, 2, 2))
	wantStable(t, front(1, 2, 0, 2, 2), api.Vec{3, 1}, api.Vec{0, 1})
	wantSettle(t, front(1, 2, 0, 2, 2), api.Vec{3, 2}, front(1, 2, 2, 0, 0))
	wantStable(t, front(1, 2, 2, 0, 0), api.Vec{3, 2}, api.Vec{2, 2})
}

func TestLearn(t *testing.T) { // P23.1: of a front of 1 to 4, that knows of so many own ones and of the other one's
	for _, x := range []struct {
		numbers      [4]int
		mine, theirs int
		ack, own     int
		want         [4]int
	}{
		{[4]int{}, 3, 1, 0, 0, [4]int{}},
		{[4]int{}, 3, 1, 2, 0, [4]int{2, 2, 0, 0}},
		{[4]int{}, 3, 1, 2, 1, [4]int{2, 2, 0, 0}}, // just come
		{[4]int{}, 3, 1, 2, 2, [4]int{2, 0, 2, 2}}, // just not
		{[4]int{}, 3, 1, 3, most, [4]int{3, 0, 3, most}},
		{[4]int{}, 3, 1, 0, 2, [4]int{}}, // it is not more than Stable
		{[4]int{2, 2, 0, 0}, 3, 1, 1, 1, [4]int{2, 2, 0, 0}},
		{[4]int{2, 2, 0, 0}, 3, 1, 1, 5, [4]int{2, 2, 0, 0}},
		{[4]int{2, 2, 0, 0}, 3, 1, 2, 5, [4]int{2, 2, 0, 0}},
		{[4]int{2, 2, 0, 0}, 3, 1, 3, 5, [4]int{3, 2, 3, 5}},
		{[4]int{4, 1, 0, 0}, 9, 1, 2, 5, [4]int{4, 1, 2, 5}}, // more than Stable, less than Acked
		{[4]int{4, 1, 0, 0}, 9, 5, 2, 5, [4]int{4, 2, 0, 0}},
		{[4]int{3, 2, 3, 5}, 9, 1, 3, 4, [4]int{3, 2, 3, 5}}, // one waits already
		{[4]int{3, 2, 3, 5}, 9, 1, 9, 6, [4]int{9, 2, 3, 5}},
		{[4]int{3, 2, 3, 5}, 9, 1, 1, 1, [4]int{3, 2, 3, 5}},
		{[4]int{3, 2, 3, 5}, 9, 1, 3, 1, [4]int{3, 3, 3, 5}}, // it goes on waiting
		{[4]int{3, 2, 3, 5}, 9, 1, 4, 1, [4]int{4, 4, 3, 5}},
		{[4]int{4, 4, 3, 5}, 9, 5, 0, 0, [4]int{4, 4, 0, 0}}, // what waited is less than Stable by now
		{[4]int{3, 2, 3, 5}, 9, 5, 9, 6, [4]int{9, 3, 0, 0}}, // one waited as it came
		{[4]int{3, 2, 3, 5}, 9, 5, 9, 5, [4]int{9, 9, 0, 0}},
		{[4]int{3, 2, 3, 5}, 9, 5, 1, 5, [4]int{3, 3, 0, 0}},
		{[4]int{3, 2, 3, 5}, 9, 4, 1, 5, [4]int{3, 2, 3, 5}},
		{[4]int{3, 0, 0, 5}, 9, 1, 3, 9, [4]int{3, 0, 0, 5}}, // 0 that waits, since Until is not 0
		{[4]int{3, 0, 0, 5}, 9, 5, 3, 9, [4]int{3, 0, 0, 0}},
		{[4]int{9, 9, 0, 0}, 3, 1, 3, 1, [4]int{9, 9, 0, 0}}, // it knows of less than was answered
		{[4]int{}, most, most, most, most, [4]int{most, most, 0, 0}},
		{[4]int{}, most, most - 1, most, most, [4]int{most, 0, most, most}},
		{[4]int{most, 0, most, most}, most, most, 0, 0, [4]int{most, most, 0, 0}},
		{[4]int{}, 0, 0, 0, 0, [4]int{}},
		{[4]int{}, 0, 0, 0, most, [4]int{}},
	} {
		for _, site := range []int{1, 2} {
			f, want := front(site, x.numbers[0], x.numbers[1], x.numbers[2], x.numbers[3]), front(site, x.want[0], x.want[1], x.want[2], x.want[3])
			wantLearn(t, f, vecOf(site, x.mine, x.theirs), x.ack, x.own, want)
			if got, _ := frontier.Settle(want, vecOf(site, x.mine, x.theirs)); got != want {
				t.Errorf("Settle behind Learn: %v of %v", got, want)
			}
		}
	}
}

// learnt and settled tell in another way than the program does what a front is to be.
func learnt(f frontier.Front, know api.Vec, ack, own int) frontier.Front {
	come, waits := of(3-f.Site, know) >= own, f.Wait > 0 || f.Until > 0
	if ack > f.Acked {
		f.Acked = ack
	}
	if come && ack > f.Stable {
		f.Stable = ack
	}
	if !come && !waits && ack > f.Stable {
		f = front(f.Site, f.Acked, f.Stable, ack, own)
	}
	return settled(f, know)
}

func settled(f frontier.Front, know api.Vec) frontier.Front {
	waits := f.Wait > 0 || f.Until > 0
	if !waits || of(3-f.Site, know) < f.Until {
		return f
	}
	if f.Wait > f.Stable {
		return front(f.Site, f.Acked, f.Wait, 0, 0)
	}
	return front(f.Site, f.Acked, f.Stable, 0, 0)
}

func TestAllSmallFronts(t *testing.T) { // P23.1: all that may be learnt of small numbers
	good, _ := fronts([]int{1, 2}, []int{0, 1, 2, 3})
	for _, f := range good {
		for mine := range 4 {
			for theirs := range 4 {
				know := vecOf(f.Site, mine, theirs)
				wantSettle(t, f, know, settled(f, know))
				wantStable(t, f, know, vecOf(f.Site, f.Stable, theirs))
				for own := range 5 {
					for ack := range mine + 1 {
						wantLearn(t, f, know, ack, own, learnt(f, know, ack, own))
					}
					wantUnlearnt(t, f, know, mine+1, own)
					wantUnlearnt(t, f, know, -1, own)
				}
			}
		}
	}
}

func TestSettle(t *testing.T) { // P23.1: just come, just not, long come
	for _, site := range []int{1, 2} {
		f := front(site, 7, 2, 5, 9)
		for _, mine := range []int{0, 5, 7, most} {
			for theirs, want := range map[int]frontier.Front{0: f, 8: f, 9: front(site, 7, 5, 0, 0), 10: front(site, 7, 5, 0, 0), most: front(site, 7, 5, 0, 0)} {
				wantSettle(t, f, vecOf(site, mine, theirs), want)
				wantSettle(t, want, vecOf(site, mine, theirs), want)
			}
		}
		wantSettle(t, front(site, 7, 6, 5, 9), vecOf(site, 7, 9), front(site, 7, 6, 0, 0)) // Stable does not fall
		wantSettle(t, front(site, 7, 0, 0, 9), vecOf(site, 7, 9), front(site, 7, 0, 0, 0))
		wantSettle(t, front(site, 7, 3, 0, 0), vecOf(site, 7, 0), front(site, 7, 3, 0, 0))
		wantSettle(t, front(site, most, 0, most, most), vecOf(site, 0, most), front(site, most, most, 0, 0))
		wantSettle(t, front(site, most, 0, most, most), vecOf(site, most, most-1), front(site, most, 0, most, most))
	}
}

func TestStable(t *testing.T) { // P23.1
	for _, site := range []int{1, 2} {
		for _, know := range []api.Vec{{}, {3, 4}, {4, 3}, {9, 1}, {most, most}} {
			for _, f := range []frontier.Front{front(site, 0, 0, 0, 0), front(site, 7, 3, 0, 0), front(site, 7, 3, 5, 2), front(site, most, most, 0, 0)} {
				wantStable(t, f, know, vecOf(site, f.Stable, of(3-site, know))) // what waits plays no part, come or not
			}
		}
	}
}

func TestErrors(t *testing.T) { // P23.1
	good, bad := fronts([]int{1, 2}, []int{-1, 0, 1, most, most + 1, math.MaxInt})
	for _, f := range good {
		for _, know := range badVecs() {
			wantRefused(t, f, know)
		}
	}
	for _, site := range append(nobody, 1, 2) {
		bad = append(bad, front(site, 3, 4, 0, 0), front(site, 3, 0, 1, 0), front(site, -1, 0, 0, 0), front(site, 0, 0, 0, most+1))
	}
	for _, site := range nobody {
		bad = append(bad, front(site, 0, 0, 0, 0))
	}
	for _, f := range append(bad, frontier.Front{}) {
		for _, know := range []api.Vec{{}, {3, 4}, {most, most}, {-1, 0}, {0, most + 1}, {math.MinInt, math.MaxInt}} {
			wantRefused(t, f, know)
		}
	}
}

func TestLearnErrors(t *testing.T) { // P23.1: ack and own
	for _, f := range []frontier.Front{front(1, 0, 0, 0, 0), front(2, 0, 0, 0, 0), front(1, 5, 3, 4, 9), front(2, most, most, 0, 0)} {
		for _, mine := range []int{0, 1, 7, most} {
			for _, theirs := range []int{0, 9, most} {
				know := vecOf(f.Site, mine, theirs)
				for _, own := range []int{0, 9, most} {
					for _, ack := range append(outside, mine+1, mine+2) {
						wantUnlearnt(t, f, know, ack, own)
					}
					wantLearn(t, f, know, mine, own, learnt(f, know, mine, own))
				}
				for _, own := range outside {
					for _, ack := range []int{0, mine, mine + 1, -1} {
						wantUnlearnt(t, f, know, ack, own)
					}
				}
			}
		}
	}
}
