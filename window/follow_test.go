package window_test

import (
	"math/rand/v2"
	"slices"
	"testing"

	"gemel/api"
	"gemel/window"
)

// plain is what a window is to be, kept in another way than the program keeps it: the numbers that are open, one by one.
type plain struct {
	size, wait int
	ack, last  int
	open       []int
}

// next tells what Next is to tell of numbers that may be.
func (p *plain) next(ack, have, now int) []int {
	for p.ack < ack {
		p.ack++
		p.open = slices.DeleteFunc(p.open, func(n int) bool { return n == p.ack })
	}
	if len(p.open) > 0 && now-p.last >= p.wait {
		p.open = nil
	}
	var told []int
	for n := p.ack + 1; n <= have && len(p.open) < p.size; n++ {
		if !slices.Contains(p.open, n) {
			p.open = append(p.open, n)
			told = append(told, n)
			p.last = now
		}
	}
	return told
}

// wantLike wants that a window is as it is to be.
func wantLike(t *testing.T, w *window.Window, p *plain) {
	t.Helper()
	if w.Ack() != p.ack || w.Open() != len(p.open) || w.Sent() != p.ack+len(p.open) {
		t.Fatalf("Ack %d, Sent %d, Open %d, want %d and open %v", w.Ack(), w.Sent(), w.Open(), p.ack, p.open)
	}
}

// call is numbers that are handed to Next; a Reset, if ack is below 0.
type call struct{ ack, have, now int }

// run makes calls of a window, and wants what each is to tell.
func run(t *testing.T, size, wait int, calls ...call) {
	t.Helper()
	w, p := made(t, size, wait), &plain{size: size, wait: wait}
	for i, c := range calls {
		if c.ack < 0 {
			p.open = nil
			wantReset(t, w)
		} else if told, e := w.Next(c.ack, c.have, c.now); e != api.OK || !slices.Equal(told, p.next(c.ack, c.have, c.now)) {
			t.Fatalf("size %d, wait %d: Next of the last one of %v = %v, %d", size, wait, calls[:i+1], told, int(e))
		}
		wantLike(t, w, p)
	}
}

// small tells all calls of small numbers.
func small() []call {
	out := []call{{ack: -1}}
	for ack := range 4 {
		for have := ack; have < 5; have++ {
			for now := range 4 {
				out = append(out, call{ack, have, now})
			}
		}
	}
	return out
}

func TestAllShortRuns(t *testing.T) { // P20.1 and P20.2: each three calls of small numbers, in whatever order
	calls := small()
	for _, size := range []int{1, 2, 3} {
		for _, wait := range []int{1, 2} {
			for _, a := range calls {
				for _, b := range calls {
					for _, c := range calls {
						run(t, size, wait, a, b, c)
					}
				}
			}
		}
	}
}

func TestLongRuns(t *testing.T) { // P20.1 and P20.2: of whatever numbers, times that go back among them
	r := rand.New(rand.NewPCG(201, 202))
	for turn := range 300 {
		size, wait := 1+r.IntN(api.MaxFlight), 1+r.IntN(api.MaxWait)
		have, now := 0, 0
		var calls []call
		for range 200 {
			have += r.IntN(3)
			if now += r.IntN(2 + turn%7*8); r.IntN(20) == 0 {
				now = r.IntN(now + 1)
			}
			switch r.IntN(10) {
			case 0:
				calls = append(calls, call{ack: -1})
			case 1:
				some := r.IntN(have + 1) // less than it had
				calls = append(calls, call{r.IntN(some + 1), some, now})
			default:
				calls = append(calls, call{max(0, have-r.IntN(2*size+2)), have, now})
			}
		}
		run(t, size, wait, calls...)
	}
}

// sender is a window with what it told, as the one who sends sees it.
type sender struct {
	*window.Window
	size, wait int
	ack        int // the greatest answer that came
	sent       int // the greatest number that was told
	last       int // when something was told last
	again      int // how many numbers were told that had been told
}

// send tells what is to be sent, and wants that it is few, and again just as soon as the wait has gone by.
func (s *sender) send(t *testing.T, ack, have, now int) []int {
	t.Helper()
	s.ack = max(s.ack, ack)
	told, e := s.Next(ack, have, now)
	if e != api.OK {
		t.Fatalf("Next(%d, %d, %d): %d", ack, have, now, int(e))
	}
	first := max(s.sent, s.ack) + 1
	if s.sent > s.ack && now >= s.last+s.wait { // all that was not answered is told again
		first = s.ack + 1
		s.again += s.sent - s.ack
		if len(told) < s.sent-s.ack {
			t.Fatalf("at %d, behind %d: %v of %d to %d", now, s.last, told, first, s.sent)
		}
	}
	var want []int
	for n := first; n <= have && n <= s.ack+s.size; n++ {
		want = append(want, n)
	}
	if !slices.Equal(told, want) {
		t.Fatalf("Next(%d, %d, %d) behind %d, %d, %d = %v, want %v", ack, have, now, s.ack, s.sent, s.last, told, want)
	}
	if len(told) > 0 {
		s.sent, s.last = told[len(told)-1], now
	}
	if s.Open() > s.size || s.Open() < 0 || s.Ack() != s.ack || s.Sent() != max(s.sent, s.ack) {
		t.Fatalf("Ack %d, Sent %d, Open %d behind %d, %d", s.Ack(), s.Sent(), s.Open(), s.ack, s.sent)
	}
	return told
}

// answer is an answer on its way.
type answer struct{ ack, at int }

func TestFewAndAgain(t *testing.T) { // P20.3 and P20.4: with answers that come, stay away and come late
	r := rand.New(rand.NewPCG(203, 204))
	again := 0
	for turn := range 400 {
		size, wait := 1+r.IntN(api.MaxFlight), 1+r.IntN(api.MaxWait)
		s := &sender{Window: made(t, size, wait), size: size, wait: wait}
		lost := turn % 5 // of five parts, so many
		have, now, held := 0, 0, 0
		var way []answer
		for range 300 {
			have += r.IntN(4)
			now += r.IntN(1 + wait)
			came := 0
			if i := slices.IndexFunc(way, func(a answer) bool { return a.at <= now }); i >= 0 {
				came = way[i].ack
				way = slices.Delete(way, i, i+1)
			}
			for _, n := range s.send(t, came, have, now) {
				if n == held+1 && r.IntN(5) >= lost {
					held = n
				}
			}
			if r.IntN(5) >= lost {
				way = append(way, answer{held, now + r.IntN(3*wait)})
			}
		}
		again += s.again
		for s.Ack() < have { // from now on all comes: no number stays away
			now += wait
			told := s.send(t, held, have, now)
			if len(told) > 0 {
				held = max(held, told[len(told)-1])
			}
			if len(told) == 0 && held < have {
				t.Fatalf("nothing is told behind %d of %d", held, have)
			}
		}
	}
	if again < 1000 {
		t.Errorf("%d numbers were told again", again)
	}
}

func TestOn(t *testing.T) { // P20.5: each number once, in order, as long as what is told is answered ahead of the wait's end
	r := rand.New(rand.NewPCG(205, 206))
	for range 200 {
		size, wait := 1+r.IntN(api.MaxFlight), 1+r.IntN(api.MaxWait)
		w, whole := made(t, size, wait), 1+r.IntN(200)
		have, now, last, sent, held := 0, 0, 0, 0, 0
		for sent < whole || held < whole {
			have = min(whole, have+r.IntN(2*size+1))
			now += r.IntN(wait + 1)
			if now >= last+wait { // by then all was answered
				held = sent
			} else if held < sent {
				held += r.IntN(sent - held + 1)
			}
			told, e := w.Next(held, have, now)
			if e != api.OK {
				t.Fatal(int(e))
			}
			for _, n := range told {
				if n != sent+1 {
					t.Fatalf("%d is told behind %d", n, sent)
				}
				sent, last = n, now
			}
		}
		want(t, w, whole, whole)
	}
}
