package store_test

import (
	"maps"
	"math"
	"slices"
	"strings"
	"testing"

	"gemel/api"
	"gemel/disk"
	"gemel/probe"
	"gemel/store"
)

// wantSure wants that a failure that keeps nothing leaves all files as they are.
func wantSure(t *testing.T, d *disk.Disk) {
	t.Helper()
	before := probe.Files(d)
	d.Fail(0)
	d.Power()
	wantFiles(t, d, before)
}

func TestCheck(t *testing.T) { // P18.3 and P18.7: behind any number of transactions
	for _, l := range probe.Schemas() {
		txs := steps(l)
		for count := range len(txs) + 1 {
			d := disk.New(probe.Ample)
			s := open(t, l, d, 1<<20, nothing())
			now := nothing()
			for _, tx := range txs[:count] {
				now = wantDone(t, s, now, tx)
			}
			ops := d.Ops()
			want(t, "Check", s.Check(), api.OK)
			wantHeld(t, s, now)
			if !s.Sure() || !s.On() || d.Ops() != ops+4 { // the log's sync; the file's make, append and sync
				t.Fatalf("behind Check: Sure %t, On %t, %d operations", s.Sure(), s.On(), d.Ops()-ops)
			}
			files := map[string]string{segName(1): segOf(l, txs[:count]...), checkName(count + 1): checkOf(l, now.all())}
			wantFiles(t, d, files)
			wantSure(t, d)
			s = open(t, l, d, 1<<20, now)
			for range 2 { // it is there: nothing more than the log's sync
				ops = d.Ops()
				want(t, "Check", s.Check(), api.OK)
				if d.Ops() != ops+1 {
					t.Fatalf("%d operations", d.Ops()-ops)
				}
				wantFiles(t, d, files)
			}
			wantDone(t, s, now, some(l))
		}
	}
}

func TestCheckIsThere(t *testing.T) { // P18.3: nothing more is done, whatever it has
	l := groups()
	d := disk.New(probe.Ample)
	s := open(t, l, d, 1, nothing())
	now := nothing()
	for _, tx := range steps(l) {
		now = wantDone(t, s, now, tx)
	}
	next := len(steps(l)) + 1
	for _, n := range []int{1, 3, next, next + 1, greatest} {
		want(t, "Make", d.Make(checkName(n)), api.OK)
		want(t, "Append", d.Append(checkName(n), []byte("somebody's")), api.OK)
	}
	files, ops := probe.Files(d), d.Ops()
	want(t, "Check", s.Check(), api.OK)
	wantFiles(t, d, files)
	if d.Ops() != ops+1 || !s.Sure() {
		t.Errorf("%d operations, Sure %t", d.Ops()-ops, s.Sure())
	}
	wantHeld(t, s, now)
}

func TestCheckLetsGo(t *testing.T) { // P18.3: all other checkpoints, the least number first, then the log's files behind it
	l := groups()
	txs := steps(l)
	next := len(txs) + 1
	order := []int{1, 2, 5, next + 1, 99999, greatest}
	laidOut := func() (*disk.Disk, *store.Store, plain) {
		d := disk.New(probe.Ample)
		s := open(t, l, d, 1, nothing())
		now := nothing()
		for _, tx := range txs {
			now = wantDone(t, s, now, tx)
		}
		for _, n := range slices.Backward(order) {
			want(t, "Make", d.Make(checkName(n)), api.OK)
			want(t, "Append", d.Append(checkName(n), []byte(checkOf(l, odd(l, n%7).all()))), api.OK)
			want(t, "Sync", d.Sync(checkName(n)), api.OK)
		}
		return d, s, now
	}
	d, s, now := laidOut()
	full := probe.Files(d)
	full[checkName(next)] = checkOf(l, now.all())
	ops := d.Ops()
	want(t, "Check", s.Check(), api.OK)
	if got := d.Ops() - ops; got != 4+len(order)+len(txs)-1 {
		t.Errorf("%d operations", got)
	}
	wantFiles(t, d, map[string]string{segName(next - 1): segOf(l, txs[next-2]), checkName(next): full[checkName(next)]})
	wantHeld(t, s, now)
	open(t, l, d, 1, now)
	for n := range len(order) + len(txs) - 1 { // those that went ahead of an error are gone
		d, s, now := laidOut()
		want(t, "Arm", d.Arm(4+n, 0), api.OK)
		want(t, "Check", s.Check(), api.ErrPower)
		d.Power()
		left := maps.Clone(full)
		for i := range n {
			if i < len(order) {
				delete(left, checkName(order[i]))
			} else {
				delete(left, segName(1+i-len(order)))
			}
		}
		wantFiles(t, d, left)
		wantHeld(t, s, now)
	}
}

func TestCheckStruck(t *testing.T) { // P18.3, P18.5 and P18.7: a failure at each of its operations
	l := groups()
	txs := steps(l)
	for _, size := range []int{1, 100, 1 << 20} {
		for n := range 20 {
			for _, keep := range append([]int{1 << 10, 300}, keeps...) {
				d := disk.New(probe.Ample)
				s := open(t, l, d, size, nothing())
				now := nothing()
				for i, tx := range txs {
					now = wantDone(t, s, now, tx)
					if i == 1 {
						want(t, "Check", s.Check(), api.OK)
					}
				}
				want(t, "Arm", d.Arm(n, keep), api.OK)
				e := s.Check()
				wantHeld(t, s, now)
				if n > 0 && !s.Sure() {
					t.Error("the log was synced, and it is not sure")
				}
				if d.On() { // it has no more operations
					want(t, "Check", e, api.OK)
					continue
				}
				want(t, "Check", e, api.ErrPower)
				d.Power()
				if n == 0 { // the power failed ahead of the log's sync: a beginning is there
					continue
				}
				for range 2 {
					s = open(t, l, d, size, now)
				}
				want(t, "Check", s.Check(), api.OK)
				open(t, l, d, size, now)
			}
		}
	}
}

// notesOf tells notes that a checkpoint of just so many bytes holds.
func notesOf(l []api.Group, size int) plain {
	const full, short = 4000, 100
	one := len(framed(noteBytes(note("note00000", strings.Repeat("x", full)))))
	all := manyNotes(0, size/one-1, strings.Repeat("x", full))
	all.Notes = append(all.Notes, note("p", strings.Repeat("p", short)), note("q", strings.Repeat("q", short)))
	left := size - len(checkOf(l, all))
	p, q := &all.Notes[len(all.Notes)-2], &all.Notes[len(all.Notes)-1]
	p.Text += strings.Repeat("p", min(left, full-short))
	q.Text += strings.Repeat("q", max(0, left-(full-short)))
	return nothing().behind(all)
}

func TestCheckLong(t *testing.T) { // P18.3: one of MaxFile bytes, and of one more
	l := groups()
	for _, x := range []struct {
		size int
		e    api.Errno
	}{{api.MaxFile - 1, api.OK}, {api.MaxFile, api.OK}, {api.MaxFile + 1, api.ErrRoom}, {api.MaxFile + 2, api.ErrRoom}, {api.MaxFile + 9000, api.ErrRoom}} {
		all := notesOf(l, x.size)
		if n := len(checkOf(l, all.all())); n != x.size {
			t.Fatalf("a checkpoint of %d bytes, want %d", n, x.size)
		}
		d := disk.New(probe.Ample)
		s := open(t, l, d, 1<<20, nothing())
		now := wantDone(t, s, nothing(), some(l))
		want(t, "Check", s.Check(), api.OK) // an older one
		now = wantDone(t, s, now, ofNotes(note("b", ""), note("f", "")))
		now = wantDone(t, s, now, ofRows(bare(l, "b"), bare(l, "f")))
		count := 4
		for part := range slices.Chunk(all.all().Notes, 60) {
			now = wantDone(t, s, now, ofNotes(part...))
			count++
		}
		files, ops := probe.Files(d), d.Ops()
		want(t, "Check", s.Check(), x.e)
		if x.e != api.OK {
			wantFiles(t, d, files)
			if d.Ops() != ops+1 || !s.Sure() {
				t.Errorf("%d operations, Sure %t", d.Ops()-ops, s.Sure())
			}
			want(t, "Check", s.Check(), x.e)
			wantHeld(t, s, now)
			open(t, l, d, 1<<20, now)
			continue
		}
		b, _ := d.Read(checkName(count))
		if string(b) != checkOf(l, all.all()) {
			t.Errorf("a checkpoint of %d bytes, want %d", len(b), x.size)
		}
		open(t, l, d, 1<<20, now)
	}
}

func TestCheckWithoutRoom(t *testing.T) { // P18.3: want of room for its bytes: the file is dropped
	l := groups()
	txs := steps(l)
	now := nothing().behind(txs...)
	need := len(segOf(l, txs...)) + len(checkOf(l, now.all()))
	for _, room := range []int{need + 1, need, need - 1, need - 20, len(segOf(l, txs...))} {
		d := disk.New(room)
		s := open(t, l, d, 1<<20, nothing())
		for i := range txs {
			wantDone(t, s, nothing().behind(txs[:i]...), txs[i])
		}
		files, ops := probe.Files(d), d.Ops()
		if room >= need {
			want(t, "Check", s.Check(), api.OK)
			open(t, l, d, 1<<20, now)
			continue
		}
		for range 2 {
			want(t, "Check", s.Check(), api.ErrRoom)
			wantFiles(t, d, files)
			wantHeld(t, s, now)
		}
		if got := d.Ops() - ops; got != 2*3 || !s.Sure() || !s.On() { // the log's sync; the file's make and drop
			t.Errorf("%d operations, Sure %t, On %t", got, s.Sure(), s.On())
		}
		open(t, l, d, 1<<20, now)
		for _, keep := range keeps { // the power fails in that drop
			s = open(t, l, d, 1<<20, now)
			want(t, "Arm", d.Arm(2, keep), api.OK)
			want(t, "Check", s.Check(), api.ErrPower)
			d.Power()
			files[checkName(len(txs)+1)] = ""
			wantFiles(t, d, files)
			open(t, l, d, 1<<20, now)
			delete(files, checkName(len(txs)+1))
			wantFiles(t, d, files)
		}
	}
}

func TestCheckBehindRefused(t *testing.T) { // P18.3: a segment that begins with n, without records: that ahead of it goes
	l := groups()
	d := disk.New(1000)
	s := open(t, l, d, 1, nothing())
	now := wantDone(t, s, nothing(), some(l))
	want(t, "Do", s.Do(ofNotes(note("n", strings.Repeat("x", 1000)))), api.ErrRoom)
	wantFiles(t, d, map[string]string{segName(1): segOf(l, some(l)), segName(2): ""})
	want(t, "Check", s.Check(), api.OK)
	wantFiles(t, d, map[string]string{segName(2): "", checkName(2): checkOf(l, now.all())})
	s = open(t, l, d, 1, now)
	wantDone(t, s, now, ofRows(rowOf(l, "k", 3)))
}

func TestCheckWithoutFiles(t *testing.T) { // P18.3: want of room for its file
	l := groups()
	for _, free := range []int{0, 1} {
		d := disk.New(probe.Ample)
		s := open(t, l, d, 1<<20, nothing())
		now := wantDone(t, s, nothing(), some(l))
		for i := range api.MaxFiles - 1 - free {
			want(t, "Make", d.Make("x"+checkName(i)), api.OK)
		}
		files := probe.Files(d)
		if free > 0 {
			want(t, "Check", s.Check(), api.OK)
			files[checkName(2)] = checkOf(l, now.all())
		} else {
			want(t, "Check", s.Check(), api.ErrRoom)
		}
		wantFiles(t, d, files)
		wantHeld(t, s, now)
		open(t, l, d, 1<<20, now)
	}
}

func TestCheckErrorsInOrder(t *testing.T) { // P18.3
	l := groups()
	d := disk.New(probe.Ample)
	s := open(t, l, d, 1<<20, nothing())
	all := notesOf(l, api.MaxFile+1)
	now := nothing()
	for part := range slices.Chunk(all.all().Notes, 60) {
		now = wantDone(t, s, now, ofNotes(part...))
	}
	want(t, "Check", s.Check(), api.ErrRoom)
	want(t, "Drop", d.Drop(segName(1)), api.OK)
	want(t, "Check", s.Check(), api.ErrFile) // wal's Sync's error ahead of that
	d.Fail(math.MaxInt)
	want(t, "Check", s.Check(), api.ErrPower)
	d.Power()
	want(t, "Check", s.Check(), api.ErrPower)
	wantHeld(t, s, now)
}

func TestChecksInTurns(t *testing.T) { // P18.3 and P18.7: with each transaction a checkpoint, and openings in between
	for _, l := range probe.Schemas() {
		for _, size := range []int{1, 50, 1 << 20} {
			d := disk.New(probe.Ample)
			s := open(t, l, d, size, nothing())
			now := nothing()
			for i := range 80 { // without them the disk would have too many files
				now = wantDone(t, s, now, steps(l)[i%len(steps(l))])
				want(t, "Check", s.Check(), api.OK)
				if names := d.Names(); len(names) > 3 || names[0] != checkName(i+2) {
					t.Fatalf("files %v", names)
				}
				if i%3 == 0 {
					s = open(t, l, d, size, now)
				}
			}
			wantSure(t, d)
			open(t, l, d, size, now)
		}
	}
}
