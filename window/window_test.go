package window_test

import (
	"math"
	"slices"
	"testing"

	"gemel/api"
	"gemel/probe"
	"gemel/window"
)

// made tells a window.
func made(t *testing.T, size, wait int) *window.Window {
	t.Helper()
	w, e := window.New(size, wait)
	if w == nil || e != api.OK {
		t.Fatalf("New(%d, %d): %d", size, wait, int(e))
	}
	return w
}

// want wants what a window tells of itself.
func want(t *testing.T, w *window.Window, ack, sent int) {
	t.Helper()
	if w.Ack() != ack || w.Sent() != sent || w.Open() != sent-ack {
		t.Fatalf("Ack %d, Sent %d, Open %d, want %d, %d, %d", w.Ack(), w.Sent(), w.Open(), ack, sent, sent-ack)
	}
}

// wantNext wants just these numbers of Next.
func wantNext(t *testing.T, w *window.Window, ack, have, now int, numbers ...int) {
	t.Helper()
	if told, e := w.Next(ack, have, now); !slices.Equal(told, numbers) || e != api.OK {
		t.Fatalf("Next(%d, %d, %d) = %v, %d, want %v", ack, have, now, told, int(e), numbers)
	}
}

// wantReset resets a window.
func wantReset(t *testing.T, w *window.Window) {
	t.Helper()
	ack := w.Ack()
	if e := w.Reset(); e != api.OK {
		t.Fatalf("Reset: %d", int(e))
	}
	want(t, w, ack, ack)
}

func TestNew(t *testing.T) { // P20.1
	sizes := map[int]bool{math.MinInt: false, -16: false, -1: false, 0: false, 1: true, 2: true, 15: true, api.MaxFlight: true, api.MaxFlight + 1: false, 1<<32 + 1: false, math.MaxInt: false}
	waits := map[int]bool{math.MinInt: false, -64: false, -1: false, 0: false, 1: true, 2: true, 63: true, api.MaxWait: true, api.MaxWait + 1: false, 1<<32 + 1: false, math.MaxInt: false}
	for size, sizeMay := range sizes {
		for wait, waitMay := range waits {
			if sizeMay && waitMay {
				want(t, made(t, size, wait), 0, 0)
			} else if w, e := window.New(size, wait); w != nil || e != api.ErrArg {
				t.Errorf("New(%d, %d): %t, %d", size, wait, w != nil, int(e))
			}
		}
	}
}

func TestExample(t *testing.T) { // the chapter's
	w := made(t, 2, 3)
	wantNext(t, w, 0, 5, 0, 1, 2)
	want(t, w, 0, 2)
	wantNext(t, w, 0, 5, 1)
	want(t, w, 0, 2)
	wantNext(t, w, 1, 5, 2, 3)
	want(t, w, 1, 3)
	wantNext(t, w, 1, 5, 4)
	want(t, w, 1, 3)
	wantNext(t, w, 1, 5, 5, 2, 3)
	want(t, w, 1, 3)
}

func TestNextErrors(t *testing.T) { // P20.1: and nothing has changed then
	bad := [][3]int{
		{-1, 5, 2}, {math.MinInt, 5, 2}, {-1, -1, -1}, {-2, -1, 2}, {math.MinInt, math.MaxInt, math.MaxInt},
		{0, -1, 2}, {0, math.MinInt, 2}, {1, -1, 2}, {-1, -1, 2},
		{0, 5, -1}, {0, 5, math.MinInt}, {5, 5, -1},
		{1, 0, 2}, {6, 5, 2}, {math.MaxInt, 5, 2}, {api.MaxSeq, api.MaxSeq - 1, 2}, {math.MaxInt, math.MinInt, 2},
		{0, api.MaxSeq + 1, 2}, {0, math.MaxInt, 2}, {api.MaxSeq + 1, api.MaxSeq + 1, 2}, {api.MaxSeq, api.MaxSeq + 1, 2}, {math.MaxInt, math.MaxInt, 2}, {0, 1<<62 + 5, 2},
		{0, 5, api.MaxTime + 1}, {0, 5, math.MaxInt}, {0, 5, 1<<62 + 2}, {0, math.MaxInt, math.MaxInt},
	}
	for _, x := range bad {
		w := made(t, 2, 3)
		refused := func(ack, sent int) {
			t.Helper()
			for range 2 {
				if told, e := w.Next(x[0], x[1], x[2]); len(told) != 0 || e != api.ErrArg {
					t.Fatalf("Next%v = %v, %d", x, told, int(e))
				}
				want(t, w, ack, sent)
			}
		}
		refused(0, 0)
		wantNext(t, w, 0, 5, 1, 1, 2)
		refused(0, 2)
		wantNext(t, w, 0, 5, 3) // nor has the time of the last sending
		refused(0, 2)
		wantNext(t, w, 1, 5, 3, 3)
		refused(1, 3)
		wantNext(t, w, 1, 5, 5)
		wantNext(t, w, 1, 5, 6, 2, 3)
		wantReset(t, w)
		refused(1, 1)
		wantNext(t, w, 1, 5, 6, 2, 3)
	}
}

func TestNextOfEdges(t *testing.T) { // P20.1: what may just be
	for _, x := range [][3]int{{0, 0, 0}, {0, 0, api.MaxTime}, {api.MaxSeq, api.MaxSeq, 0}, {api.MaxSeq, api.MaxSeq, api.MaxTime}, {7, 7, 7}} {
		w := made(t, api.MaxFlight, api.MaxWait)
		wantNext(t, w, x[0], x[1], x[2])
		want(t, w, x[0], x[0])
	}
	w := made(t, 1, 1)
	wantNext(t, w, 0, api.MaxSeq, api.MaxTime, 1)
	wantNext(t, w, 0, api.MaxSeq, api.MaxTime)
	want(t, w, 0, 1)
}

func TestHave(t *testing.T) { // P20.1: at, below and above what was answered and size
	for _, size := range []int{1, 2, 7, api.MaxFlight} {
		for _, ack := range []int{0, 1, 5, 1 << 32, api.MaxSeq - 40} {
			for ahead := range size + 3 {
				w := made(t, size, 5)
				var numbers []int
				for n := range min(ahead, size) {
					numbers = append(numbers, ack+1+n)
				}
				wantNext(t, w, ack, ack+ahead, 9, numbers...)
				want(t, w, ack, ack+len(numbers))
			}
		}
	}
	w := made(t, 4, 5)
	wantNext(t, w, 10, 20, 0, 11, 12, 13, 14)
	for _, have := range []int{2, 9, 10, 11, 13, 14, 20} { // what it has is less than what was sent, or answered
		wantNext(t, w, 2, have, 4)
		want(t, w, 10, 14)
	}
	wantNext(t, w, 2, 9, 5) // the wait is over, but there is nothing to be told
	want(t, w, 10, 10)
	wantNext(t, w, 2, 10, 5)
	want(t, w, 10, 10)
	wantNext(t, w, 2, 12, 6, 11, 12)
	want(t, w, 10, 12)
}

func TestAck(t *testing.T) { // P20.1: below, at and above what was answered, and what was sent
	for ack, numbers := range map[int][]int{
		0: nil, 5: nil, 9: nil, 10: nil, // what was answered stays so
		11: {15}, 12: {15, 16}, 13: {15, 16, 17}, 14: {15, 16, 17, 18}, // all that was sent
		15: {16, 17, 18, 19}, 40: {41, 42, 43, 44}, // more than was sent: this is sent then
		48: {49, 50}, 49: {50}, 50: nil,
	} {
		w := made(t, 4, 5)
		wantNext(t, w, 10, 50, 0, 11, 12, 13, 14)
		wantNext(t, w, ack, 50, 4, numbers...)
		want(t, w, max(10, ack), max(14, ack)+len(numbers))
	}
}

func TestWait(t *testing.T) { // P20.1: just not over, just over, long over
	for _, wait := range []int{1, 2, 3, 63, api.MaxWait} {
		for _, at := range []int{0, 1, 1000, 1 << 32, api.MaxTime - 200} {
			for _, now := range []int{at, at + wait - 1} {
				w := made(t, 2, wait)
				wantNext(t, w, 3, 9, at, 4, 5)
				wantNext(t, w, 3, 9, now)
				want(t, w, 3, 5)
			}
			for _, now := range []int{at + wait, at + wait + 1, at + 2*wait, at + 200, api.MaxTime} {
				w := made(t, 2, wait)
				wantNext(t, w, 3, 9, at, 4, 5)
				wantNext(t, w, 3, 9, now, 4, 5)
				want(t, w, 3, 5)
				wantNext(t, w, 3, 9, min(now+wait, api.MaxTime+1)-1) // it goes from the last sending on
				want(t, w, 3, 5)
			}
		}
	}
}

func TestWaitOfPart(t *testing.T) { // P20.1: the wait goes from the last sending on, of whatever numbers; without one it goes on
	w := made(t, 4, 10)
	wantNext(t, w, 0, 2, 0, 1, 2)
	wantNext(t, w, 0, 3, 7, 3)
	wantNext(t, w, 0, 3, 10)
	wantNext(t, w, 0, 3, 16)
	wantNext(t, w, 1, 3, 16) // an answer is no sending
	want(t, w, 1, 3)
	wantNext(t, w, 1, 3, 17, 2, 3)
	wantNext(t, w, 3, 3, 18) // all was answered
	want(t, w, 3, 3)
	wantNext(t, w, 3, 3, 27)
	wantNext(t, w, 3, 4, 28, 4)
	wantNext(t, w, 3, 4, 37)
	wantNext(t, w, 3, 4, 38, 4)
	wantNext(t, w, 3, 8, 60, 4, 5, 6, 7) // the wait is over, and there are more
	want(t, w, 3, 7)
}

func TestAnsweredBehindWait(t *testing.T) { // P20.1: an answer that comes just when the wait is over
	w := made(t, 3, 2)
	wantNext(t, w, 0, 9, 0, 1, 2, 3)
	wantNext(t, w, 2, 9, 2, 3, 4, 5) // of what was not answered all again
	want(t, w, 2, 5)
	wantNext(t, w, 5, 9, 4, 6, 7, 8) // all was answered: no number again
	want(t, w, 5, 8)
	wantNext(t, w, 7, 8, 5)
	wantNext(t, w, 7, 9, 5, 9)
	wantNext(t, w, 8, 9, 7, 9)
	want(t, w, 8, 9)
}

func TestTimeBack(t *testing.T) { // P20.1: now that goes back
	w := made(t, 2, 3)
	wantNext(t, w, 0, 9, 100, 1, 2)
	for _, now := range []int{99, 50, 0, 102} {
		wantNext(t, w, 0, 9, now)
		want(t, w, 0, 2)
	}
	wantNext(t, w, 1, 9, 40, 3) // this is the time of the last sending then
	want(t, w, 1, 3)
	wantNext(t, w, 1, 9, 42)
	wantNext(t, w, 1, 9, 43, 2, 3)
	wantReset(t, w)
	wantNext(t, w, 1, 9, 5, 2, 3)
	wantNext(t, w, 1, 9, 7)
	wantNext(t, w, 1, 9, 8, 2, 3)
}

func TestNothingMoves(t *testing.T) { // P20.1: an answer that moves nothing, however often it comes
	w := made(t, 3, 50)
	wantNext(t, w, 4, 9, 0, 5, 6, 7)
	for now := range 50 {
		wantNext(t, w, now%5, 9, now)
		want(t, w, 4, 7)
	}
	wantNext(t, w, 0, 9, 50, 5, 6, 7)
}

func TestUpToMaxSeq(t *testing.T) { // P20.1
	w := made(t, api.MaxFlight, api.MaxWait)
	wantNext(t, w, api.MaxSeq-17, api.MaxSeq-15, 0, api.MaxSeq-16, api.MaxSeq-15)
	wantNext(t, w, api.MaxSeq-16, api.MaxSeq-14, 1, api.MaxSeq-14)
	var rest []int
	for n := api.MaxSeq - 13; n <= api.MaxSeq; n++ {
		rest = append(rest, n)
	}
	wantNext(t, w, api.MaxSeq-16, api.MaxSeq, 2, rest...)
	want(t, w, api.MaxSeq-16, api.MaxSeq)
	wantNext(t, w, api.MaxSeq-1, api.MaxSeq, 3)
	wantNext(t, w, api.MaxSeq-1, api.MaxSeq, api.MaxTime, api.MaxSeq)
	want(t, w, api.MaxSeq-1, api.MaxSeq)
	wantNext(t, w, api.MaxSeq, api.MaxSeq, api.MaxTime)
	want(t, w, api.MaxSeq, api.MaxSeq)
	wantReset(t, w)
	wantNext(t, w, 0, api.MaxSeq, api.MaxTime)
}

func TestReset(t *testing.T) { // P20.2: all is sent again, whatever the time is
	w := made(t, 3, 10)
	wantReset(t, w)
	want(t, w, 0, 0)
	wantNext(t, w, 0, 9, 5, 1, 2, 3)
	wantReset(t, w)
	wantNext(t, w, 0, 9, 5, 1, 2, 3)
	wantNext(t, w, 2, 9, 6, 4, 5)
	wantReset(t, w)
	wantReset(t, w)
	want(t, w, 2, 2)
	wantNext(t, w, 2, 4, 7, 3, 4)
	wantNext(t, w, 2, 4, 16)
	wantNext(t, w, 2, 4, 17, 3, 4)
	wantReset(t, w)
	wantNext(t, w, 4, 4, 18)
	want(t, w, 4, 4)
}

func TestNoWindow(t *testing.T) { // P20.2: a Window that no call made, whatever it is asked
	var none *window.Window
	var zero window.Window
	bad, _ := window.New(0, 0)
	for _, w := range []*window.Window{none, &zero, {}, bad} {
		for range 2 {
			for _, x := range [][3]int{{0, 5, 0}, {0, 0, 0}, {3, 5, 9}, {-1, 5, 0}, {5, 3, 0}, {0, math.MaxInt, 0}, {0, 5, math.MinInt}} {
				if told, e := w.Next(x[0], x[1], x[2]); len(told) != 0 || e != api.ErrNil {
					t.Errorf("Next%v = %v, %d", x, told, int(e))
				}
			}
			if e := w.Reset(); e != api.ErrNil {
				t.Errorf("Reset: %d", int(e))
			}
			want(t, w, 0, 0)
		}
	}
}

func TestToldIsNew(t *testing.T) { // rule 4
	w, other := made(t, 4, 2), made(t, 4, 2)
	var lists [][]int
	for now := range 40 {
		told, e := w.Next(now/4, 60, now)
		again, _ := other.Next(now/4, 60, now)
		if e != api.OK || !slices.Equal(told, again) {
			t.Fatalf("Next = %v, of another window %v", told, again)
		}
		lists = append(lists, told, again)
		whole := told[:cap(told)]
		for i := range whole { // nothing of it is kept
			whole[i] = -1
		}
		if w.Ack() != other.Ack() || w.Sent() != other.Sent() {
			t.Fatalf("Ack %d, Sent %d, of another window %d, %d", w.Ack(), w.Sent(), other.Ack(), other.Sent())
		}
	}
	if !probe.Apart(lists...) {
		t.Error("lists handed out share memory")
	}
}
