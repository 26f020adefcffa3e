package wal_test

import (
	"fmt"
	"maps"
	"math"
	"slices"
	"strings"
	"testing"

	"gemel/api"
	"gemel/disk"
	"gemel/frame"
	"gemel/probe"
	"gemel/wal"
)

const greatest = 999_999_999_999 // that a segment's name tells

// framed tells the frames of records, one behind the other.
func framed(records ...string) string {
	var b []byte
	for _, r := range records {
		b = append(b, frame.Wrap([]byte(r))...)
	}
	return string(b)
}

// texts tells records as texts.
func texts(records [][]byte) []string {
	var out []string
	for _, r := range records {
		out = append(out, string(r))
	}
	return out
}

// nameOf tells what a segment's name is to be.
func nameOf(begin int) string { return fmt.Sprintf("w%012d", begin) }

// laid tells a disk with these files, all sure.
func laid(t *testing.T, files map[string]string) *disk.Disk {
	t.Helper()
	d := probe.Disk(files)
	if d == nil {
		t.Fatalf("no disk has the files %.200q", files)
	}
	return d
}

// wantFiles wants that a disk has just these files.
func wantFiles(t *testing.T, d *disk.Disk, want map[string]string) {
	t.Helper()
	if got := probe.Files(d); !maps.Equal(got, want) {
		t.Fatalf("files %.200q, want %.200q", got, want)
	}
}

// wantSure wants that a failure that keeps nothing leaves all files as they are.
func wantSure(t *testing.T, d *disk.Disk) {
	t.Helper()
	before := probe.Files(d)
	d.Fail(0)
	d.Power()
	wantFiles(t, d, before)
}

// wantNumbers wants what a log tells of itself.
func wantNumbers(t *testing.T, l *wal.Log, first, next, sure int, on bool) {
	t.Helper()
	if l.First() != first || l.Next() != next || l.Sure() != sure || l.On() != on {
		t.Fatalf("First %d, Next %d, Sure %d, On %t, want %d, %d, %d, %t", l.First(), l.Next(), l.Sure(), l.On(), first, next, sure, on)
	}
}

// open opens a log that is to have these records from first on.
func open(t *testing.T, d *disk.Disk, size, first int, want ...string) *wal.Log {
	t.Helper()
	l, records, e := wal.Open(d, size)
	if e != api.OK || l == nil || !slices.Equal(texts(records), want) {
		t.Fatalf("Open: records %.100q, %d, want %.100q", records, int(e), want)
	}
	wantNumbers(t, l, first, first+len(want), first+len(want)-1, true)
	return l
}

// wantShut wants that a log is not opened, with this error, and that the disk is as it was.
func wantShut(t *testing.T, d *disk.Disk, size int, want api.Errno) {
	t.Helper()
	before, ops, fails, used := probe.Files(d), d.Ops(), d.Fails(), d.Used()
	if l, records, e := wal.Open(d, size); l != nil || len(records) != 0 || e != want {
		t.Fatalf("Open: %d records, %d, want %d", len(records), int(e), int(want))
	}
	wantFiles(t, d, before)
	if d.Ops() != ops || d.Fails() != fails || d.Used() != used {
		t.Fatalf("Open has done something that was refused: Ops %d, want %d", d.Ops(), ops)
	}
}

// wantAppend wants that a record is appended, with this number.
func wantAppend(t *testing.T, l *wal.Log, rec string, want int) {
	t.Helper()
	if n, e := l.Append([]byte(rec)); n != want || e != api.OK {
		t.Fatalf("Append of %d bytes: %d, %d, want %d", len(rec), n, int(e), want)
	}
}

// wantRefused wants that a record is refused, with this error.
func wantRefused(t *testing.T, l *wal.Log, rec string, want api.Errno) {
	t.Helper()
	if n, e := l.Append([]byte(rec)); n != 0 || e != want {
		t.Fatalf("Append of %d bytes: %d, %d, want %d", len(rec), n, int(e), int(want))
	}
}

func wantOK(t *testing.T, what string, e api.Errno) {
	t.Helper()
	if e != api.OK {
		t.Fatalf("%s: %d", what, int(e))
	}
}

// oddNumbers are those of no segment.
var oddNumbers = []int{math.MinInt, -greatest, -1 << 32, -10, -1, 0, greatest + 1, 10 * greatest, 1 << 62, math.MaxInt}

// numbers tells some of segments.
func numbers() []int {
	out := []int{1, 2, 42, 1 << 31, 1<<32 + 1, 123456789012, greatest - 1, greatest}
	for n := 10; n <= greatest; n *= 10 {
		out = append(out, n-1, n, n+1)
	}
	return out
}

// oddNames tells names of no segment.
func oddNames() []string {
	out := []string{"", "w", "w1", "w00000000001", "w0000000000001", "000000000001", "w000000000000", "w0000000000000", "w1000000000000", "W000000000001", "c000000000001", "v000000000001", "x000000000001", "ww00000000001", "w+00000000001", "w-00000000001", "w 00000000001", "w00000000001 ", " w00000000001", "w0x0000000001", "w0000000000_1", "w00000_000001", "w00000000000x", "w00000000000a", "wx00000000001", "w00000x000001", "w000000.00001", "w00000000001e", "w99999999999999999999999", "w00000000000000000000001", "w000000000001\x00", "w000000000001 ", "\x00w00000000001", "w0000000000١", "w000000000001w000000000001"}
	for i := range 12 {
		for _, c := range "/:aAwz\x00\xb0\u00ff" {
			name := []byte("w111111111111")
			name[1+i] = byte(c)
			out = append(out, string(name))
		}
	}
	return out
}

func TestName(t *testing.T) { // P16.1
	for _, n := range numbers() {
		if got := wal.Name(n); got != nameOf(n) {
			t.Errorf("Name(%d) = %q", n, got)
		}
		if got := wal.Number(nameOf(n)); got != n {
			t.Errorf("Number(%q) = %d", nameOf(n), got)
		}
	}
	for _, n := range oddNumbers {
		if got := wal.Name(n); got != "" {
			t.Errorf("Name(%d) = %q", n, got)
		}
	}
	for _, name := range oddNames() {
		if got := wal.Number(name); got != 0 {
			t.Errorf("Number(%q) = %d", name, got)
		}
	}
}

func TestExample(t *testing.T) { // P16.2 to P16.4: the chapter's example
	d := disk.New(1000)
	l := open(t, d, 20, 1)
	for i := range 3 {
		wantAppend(t, l, "aaaa", i+1)
	}
	wantFiles(t, d, map[string]string{"w000000000001": framed("aaaa", "aaaa"), "w000000000003": framed("aaaa")})
	wantNumbers(t, l, 1, 4, 2, true)
}

// badSizes are those that Open does not take.
var badSizes = []int{math.MinInt, -1 << 32, -1, 0, 1<<20 + 1, 1 << 30, 1<<32 + 20, math.MaxInt}

func TestOpenWithoutDisk(t *testing.T) { // P16.2
	var none *disk.Disk
	var zero disk.Disk
	for _, d := range []*disk.Disk{none, &zero, {}, disk.New(-1)} {
		for _, size := range append([]int{1, 20, 1 << 20}, badSizes...) {
			wantShut(t, d, size, api.ErrNil)
		}
	}
}

func TestOpenErrorsInOrder(t *testing.T) { // P16.2
	for _, files := range []map[string]string{
		{},
		{nameOf(1): framed("a", "b")},
		{nameOf(1): framed("a") + "x", nameOf(2): ""}, // ErrLog
	} {
		d := laid(t, files)
		d.Fail(0)
		for _, size := range append([]int{1, 20, 1 << 20}, badSizes...) {
			wantShut(t, d, size, api.ErrPower)
		}
		if d.On() {
			t.Error("there is power")
		}
		d.Power()
		d.Arm(0, 5) // a plan strikes nothing that is refused
		for _, size := range badSizes {
			wantShut(t, d, size, api.ErrArg)
		}
		if len(files) == 2 {
			wantShut(t, d, 20, api.ErrLog)
		}
		if !d.On() || d.Sync(nameOf(1)) == api.OK && len(files) > 0 {
			t.Error("the plan is gone")
		}
	}
}

func TestOpenSizes(t *testing.T) { // P16.2 and P16.3
	for _, size := range []int{1, 2, 6, 20, 1<<20 - 1, 1 << 20} {
		d := disk.New(probe.Ample)
		l := open(t, d, size, 1)
		want := map[string]string{nameOf(1): ""}
		wantFiles(t, d, want)
		at := 1
		for i := range 5 {
			rec := string(rune('a' + i))
			if want[nameOf(at)] != "" && len(want[nameOf(at)])+len(framed(rec)) > size {
				at = i + 1
			}
			want[nameOf(at)] += framed(rec)
			wantAppend(t, l, rec, i+1)
		}
		wantFiles(t, d, want)
		for _, other := range []int{1, 7, 13, 14, 1 << 20} { // segments of any size are opened with any
			open(t, d, other, 1, "a", "b", "c", "d", "e")
			wantFiles(t, d, want)
		}
	}
}

// others are files that are no segments, with bytes that may be frames or not.
var others = map[string]string{"a": "", "w": "x", "c000000000001": framed("a", "b"), "w000000000000": framed("nought"), "w00000000001": framed("short"), "w0000000000001": "\xb5torn", "w00000000001x": "x", "x000000000001": framed("x"), "v999999999999": "v", "w000000000001a": framed("q"), "zz": "last"}

func TestOpenOthersStay(t *testing.T) { // P16.2
	for _, run := range []struct {
		segments map[string]string
		first    int
		all      []string
	}{
		{map[string]string{}, 1, nil},
		{map[string]string{nameOf(1): ""}, 1, nil},
		{map[string]string{nameOf(1): framed("a", "b")}, 1, []string{"a", "b"}},
		{map[string]string{nameOf(7): framed("a"), nameOf(8): framed("b") + "\xb5\x04"}, 7, []string{"a", "b"}},
	} {
		files := maps.Clone(others)
		maps.Copy(files, run.segments)
		d := laid(t, files)
		l := open(t, d, 20, run.first, run.all...)
		next := l.Next()
		wantAppend(t, l, "more", next)
		wantAppend(t, l, strings.Repeat("x", 20), next+1)
		wantOK(t, "Retire", l.Retire(greatest))
		want := maps.Clone(others)
		want[nameOf(next+1)] = framed(strings.Repeat("x", 20))
		wantFiles(t, d, want)
	}
	d := laid(t, others)
	open(t, d, 20, 1)
	want := maps.Clone(others)
	want[nameOf(1)] = ""
	wantFiles(t, d, want)
}

func TestOpenSegments(t *testing.T) { // P16.2 and P16.4
	big := strings.Repeat("big", 3000)
	for _, first := range []int{1, 2, 9, 99, 1<<32 + 5, greatest - 9} {
		for _, parts := range [][][]string{
			{{}},
			{{"a"}},
			{{""}},
			{{"a", "", "b", big, "c"}},
			{{"a"}, {}},
			{{"a"}, {"b"}},
			{{"", "", ""}, {""}, {"a", "b"}},
			{{"a", "b", "c"}, {big}, {"d"}, {}},
			{{"1"}, {"2"}, {"3"}, {"4"}, {"5"}, {"6"}, {"7"}, {"8"}},
		} {
			files, next, all := map[string]string{}, first, []string(nil)
			for _, part := range parts {
				files[nameOf(next)] = framed(part...)
				next += len(part)
				all = append(all, part...)
			}
			d := laid(t, files)
			for range 3 { // P16.7
				open(t, d, 20, first, all...)
				wantFiles(t, d, files)
			}
			l := open(t, d, 20, first, all...)
			wantAppend(t, l, "more", next)
			open(t, d, 20, first, append(slices.Clone(all), "more")...)
		}
	}
	d := laid(t, map[string]string{nameOf(greatest): framed("a", "b")})
	open(t, d, 20, greatest, "a", "b")
}

func TestOpenManySegments(t *testing.T) { // P16.2 and P16.8
	d := disk.New(probe.Ample)
	l := open(t, d, 1, 1)
	var all []string
	for i := range 64 {
		all = append(all, fmt.Sprint("record ", i))
		wantAppend(t, l, all[i], i+1)
	}
	wantRefused(t, l, "one more", api.ErrRoom)
	wantNumbers(t, l, 1, 65, 64, true)
	open(t, d, 1, 1, all...)
	l = open(t, d, 1<<20, 1, all...)
	wantAppend(t, l, "one more", 65)
	open(t, d, 1, 1, append(all, "one more")...)
}

// tails tells segments whose last one is to be torn: what stands ahead of it, and its records.
func tails() []map[int][]string {
	return []map[int][]string{
		{1: {"abcd"}},
		{1: {"", "a", "bc", strings.Repeat("long", 20), "d"}},
		{5: {"a", "b"}, 7: {"c", "", "defg"}},
		{1: {"a"}, 2: {"b"}, 3: {strings.Repeat("x", 100), "y"}},
	}
}

// parted tells the files of segments, the last one's number, and the records of all that stand ahead of it.
func parted(segments map[int][]string) (map[string]string, int, []string) {
	files, last, ahead := map[string]string{}, 0, []string(nil)
	for _, n := range slices.Sorted(maps.Keys(segments)) {
		ahead = append(ahead, segments[last]...)
		files[nameOf(n)], last = framed(segments[n]...), n
	}
	return files, last, ahead
}

// wantCut wants what a log is behind Open of a last segment that has become b: the first so many of its records are there.
func wantCut(t *testing.T, segments map[int][]string, b string, whole int) {
	t.Helper()
	files, last, ahead := parted(segments)
	first := slices.Min(slices.Collect(maps.Keys(segments)))
	left := segments[last][:whole]
	files[nameOf(last)] = b
	d := laid(t, files)
	all := slices.Concat(ahead, left)
	l := open(t, d, 1<<20, first, all...)
	files[nameOf(last)] = framed(left...)
	wantFiles(t, d, files)
	wantSure(t, d)
	if l.On() {
		t.Fatal("a log whose power failed is on")
	}
	l = open(t, d, 1<<20, first, all...) // P16.7
	wantFiles(t, d, files)
	wantAppend(t, l, "behind", first+len(all))
	files[nameOf(last)] += framed("behind")
	wantFiles(t, d, files)
	open(t, d, 1<<20, first, append(all, "behind")...)
}

func TestOpenTorn(t *testing.T) { // P16.2 and P16.6
	for _, segments := range tails() {
		_, last, _ := parted(segments)
		whole := framed(segments[last]...)
		for at := range len(whole) + 1 {
			count := 0
			for count < len(segments[last]) && len(framed(segments[last][:count+1]...)) <= at {
				count++
			}
			wantCut(t, segments, whole[:at], count)
		}
		for _, tail := range []string{"x", "\xb5", "\x00", strings.Repeat("\xb5", 50), "\xb5\x00\x00\x00\x00\x00", "\xb5\xff\xff\xff\xff\xff\xff\xff\xff", "x" + framed("a")} { // what is no frame
			wantCut(t, segments, whole+tail, len(segments[last]))
		}
	}
}

func TestOpenTurned(t *testing.T) { // P16.2 and P16.6
	for _, segments := range tails() {
		_, last, _ := parted(segments)
		records := segments[last]
		whole := framed(records...)
		for at := range len(whole) {
			count := 0
			for len(framed(records[:count+1]...)) <= at {
				count++
			}
			for _, bits := range []byte{1, 0x80, 0xff} {
				b := []byte(whole)
				b[at] ^= bits
				wantCut(t, segments, string(b), count)
			}
		}
	}
}

func TestOpenNotRight(t *testing.T) { // P16.2: a segment that is not the last one
	for _, files := range []map[string]string{
		{nameOf(3): framed("a", "bcd"), nameOf(5): framed("e")},
		{nameOf(1): framed(""), nameOf(2): framed("a", "b"), nameOf(4): ""},
		{nameOf(1): framed("a"), nameOf(2): framed("b"), nameOf(3): framed("c") + "torn"},
	} {
		open(t, laid(t, files), 20, wal.Number(slices.Min(slices.Collect(maps.Keys(files)))), allOf(files)...)
		last := slices.Max(slices.Collect(maps.Keys(files)))
		for name, whole := range files {
			if name == last {
				continue
			}
			for at := range len(whole) {
				b := []byte(whole)
				b[at] ^= 0x41
				for _, spoilt := range []string{whole[:at], string(b)} { // torn, turned
					wantLog(t, files, name, spoilt)
				}
			}
			for _, tail := range []string{"x", "\xb5", framed("one more"), "\x00"} {
				wantLog(t, files, name, whole+tail)
			}
		}
	}
}

// allOf tells all records of files.
func allOf(files map[string]string) []string {
	var all []string
	for _, name := range slices.Sorted(maps.Keys(files)) {
		bodies, _, _ := frame.Rows([]byte(files[name]))
		all = append(all, texts(bodies)...)
	}
	return all
}

// wantLog wants that a log is not opened when one of its files is another one.
func wantLog(t *testing.T, files map[string]string, name, b string) {
	t.Helper()
	files = maps.Clone(files)
	files[name] = b
	wantShut(t, laid(t, files), 20, api.ErrLog)
}

func TestOpenGap(t *testing.T) { // P16.2
	for _, numbers := range [][]int{{1, 4}, {1, 2}, {1, 1000}, {1, greatest}, {2, 3}, {2, 5}, {greatest - 9, greatest - 6}, {greatest - 9, greatest - 8}} {
		for _, tail := range []string{"", framed("c"), "torn"} { // of two records each
			wantShut(t, laid(t, map[string]string{nameOf(numbers[0]): framed("a", "b"), nameOf(numbers[1]): tail}), 20, api.ErrLog)
		}
	}
	for _, files := range []map[string]string{
		{nameOf(1): "", nameOf(2): ""}, // one without a record is right, but nothing can stand behind it
		{nameOf(1): "", nameOf(2): framed("a")},
		{nameOf(1): framed("a"), nameOf(2): framed("b"), nameOf(4): framed("c")},
		{nameOf(1): framed("a"), nameOf(3): framed("b"), nameOf(4): framed("c")},
		{nameOf(1): framed("a", "b"), nameOf(2): framed("b"), nameOf(3): framed("c")},
		{nameOf(1): framed("a"), nameOf(2): "", nameOf(3): framed("c")},
	} {
		wantShut(t, laid(t, files), 20, api.ErrLog)
	}
}

func TestOpenDiskErrors(t *testing.T) { // P16.2: disk's error, and nothing but cuts was done
	files := map[string]string{}
	for i := range 64 {
		files[fmt.Sprintf("f%02d", i)] = "x"
	}
	d := laid(t, files)
	wantShut(t, d, 20, api.ErrRoom) // no file can be made
	d.Drop("f00")
	open(t, d, 20, 1)

	d = disk.New(0) // a segment without records needs no room
	l := open(t, d, 20, 1)
	wantRefused(t, l, "", api.ErrRoom)
}

func TestOpenStruck(t *testing.T) { // P16.2, P16.5 and P16.7: the power fails in Open
	for _, keep := range []int{-1, 0, 1, 3, 1 << 20} {
		for _, run := range []struct {
			files map[string]string
			ops   int // at least so many are done in Open
			want  []string
		}{
			{map[string]string{}, 1, nil},
			{map[string]string{nameOf(1): framed("a", "b")}, 1, []string{"a", "b"}},
			{map[string]string{nameOf(1): framed("a", "b") + "\xb5to"}, 2, []string{"a", "b"}},
			{map[string]string{nameOf(1): framed("a", "b"), nameOf(3): framed("c") + "x"}, 2, []string{"a", "b", "c"}},
		} {
			for n := range run.ops {
				d := laid(t, run.files)
				d.Arm(n, keep)
				if l, records, e := wal.Open(d, 20); l != nil || len(records) != 0 || e != api.ErrPower || d.On() {
					t.Fatalf("Open: %d records, %d", len(records), int(e))
				}
				d.Power()
				for name, was := range run.files {
					if b, e := d.Read(name); e != api.OK || string(b) != was && string(b) != framed(allOf(map[string]string{name: was})...) {
						t.Fatalf("%s has become %q", name, b)
					}
				}
				if len(d.Names()) != len(run.files) {
					t.Fatalf("files %q", d.Names())
				}
				open(t, d, 20, 1, run.want...)
				open(t, d, 20, 1, run.want...)
			}
		}
	}
}

func TestOpenOperations(t *testing.T) { // P16.2: what is whole is synced, and not cut
	for _, files := range []map[string]string{{nameOf(1): ""}, {nameOf(1): framed("a", "b")}, {nameOf(1): framed("a"), nameOf(2): framed("", "b")}} {
		d := laid(t, files)
		d.Arm(1, 0)
		open(t, d, 20, 1, allOf(files)...)
		if e := d.Make("a"); e != api.ErrPower {
			t.Errorf("the operation behind a sync: %d", int(e))
		}
	}
}

func TestOpenMakesSure(t *testing.T) { // P16.2 and P16.4: what is there when the log is opened is sure
	d := disk.New(probe.Ample)
	l := open(t, d, 100, 1)
	wantAppend(t, l, "a", 1)
	wantAppend(t, l, "b", 2)
	wantNumbers(t, l, 1, 3, 0, true)
	open(t, d, 100, 1, "a", "b")
	wantSure(t, d)
	d.Append(nameOf(1), []byte(framed("c")+"torn")) // not synced
	l = open(t, d, 100, 1, "a", "b", "c")
	wantSure(t, d)
	open(t, d, 100, 1, "a", "b", "c")
}

func TestAppend(t *testing.T) { // P16.3
	d := disk.New(probe.Ample)
	l := open(t, d, 1000, 1)
	var all []string
	for i, rec := range []string{"a", "", "\x00", framed("in a frame"), "\xb5", strings.Repeat("x", 62), strings.Repeat("y", 64), "last"} {
		all = append(all, rec)
		wantAppend(t, l, rec, i+1)
		wantNumbers(t, l, 1, i+2, 0, true)
		wantFiles(t, d, map[string]string{nameOf(1): framed(all...)})
	}
	open(t, d, 1000, 1, all...)
	l = open(t, d, 1000, 1, all...)
	for i := range 2 {
		if n, e := l.Append(nil); n != 9+i || e != api.OK {
			t.Fatalf("Append of nil: %d, %d", n, int(e))
		}
	}
	open(t, d, 1000, 1, append(all, "", "")...)
}

func TestAppendLong(t *testing.T) { // P16.3
	full := strings.Repeat("r", 1<<18)
	for _, size := range []int{1, 1000, 1 << 20} {
		d := disk.New(probe.Ample)
		l := open(t, d, size, 1)
		for range 2 { // into no record, and behind some
			next := l.Next()
			before := probe.Files(d)
			for _, n := range []int{1<<18 + 1, 1 << 19, 1 << 20, 1<<20 + 1} {
				wantRefused(t, l, strings.Repeat("r", n), api.ErrLong)
				wantNumbers(t, l, 1, next, next-1, true)
			}
			wantFiles(t, d, before)
			wantAppend(t, l, full, next)
			wantAppend(t, l, full[1:], next+1)
			wantOK(t, "Sync", l.Sync())
		}
		open(t, d, size, 1, full, full[1:], full, full[1:])
	}
}

func TestAppendTurns(t *testing.T) { // P16.3: a segment that is just full, and one byte more
	for records := 1; records < 5; records++ {
		for _, step := range []int{0, 1, 57, 58, 59, 60, 100} {
			for less := range 3 { // the last one is as long as it may be, one byte longer, two
				d := disk.New(probe.Ample)
				ahead := slices.Repeat([]string{"abcd"}, records)
				rec := strings.Repeat("r", step)
				size := len(framed(ahead...)) + len(framed(rec)) - less
				l := open(t, d, size, 1)
				for i, a := range ahead {
					wantAppend(t, l, a, i+1)
				}
				wantNumbers(t, l, 1, records+1, 0, true)
				wantAppend(t, l, rec, records+1)
				want := map[string]string{nameOf(1): framed(append(ahead, rec)...)}
				sure := 0
				if less > 0 {
					want = map[string]string{nameOf(1): framed(ahead...), nameOf(records + 1): framed(rec)}
					sure = records
				}
				wantFiles(t, d, want)
				wantNumbers(t, l, 1, records+2, sure, true)
				l = open(t, d, size, 1, append(ahead, rec)...) // a log that is opened goes on as the one ahead of it would
				wantAppend(t, l, strings.Repeat("s", size), records+2)
				want[nameOf(records+2)] = framed(strings.Repeat("s", size))
				wantFiles(t, d, want)
			}
		}
	}
}

func TestAppendAboveSize(t *testing.T) { // P16.3: a record that alone is above size
	long := strings.Repeat("l", 100)
	d := disk.New(probe.Ample)
	l := open(t, d, 30, 1)
	for i, rec := range []string{long, "a", long, long, "", "b"} {
		wantAppend(t, l, rec, i+1)
	}
	want := map[string]string{nameOf(1): framed(long), nameOf(2): framed("a"), nameOf(3): framed(long), nameOf(4): framed(long), nameOf(5): framed("", "b")}
	wantFiles(t, d, want)
	wantNumbers(t, l, 1, 7, 4, true)
	open(t, d, 30, 1, long, "a", long, long, "", "b")
}

func TestAppendSyncsAheadOfSegment(t *testing.T) { // P16.3 and P16.5
	d := disk.New(probe.Ample)
	l := open(t, d, 20, 1)
	for i := range 3 {
		wantAppend(t, l, "aaaa", i+1)
	}
	wantNumbers(t, l, 1, 4, 2, true)
	d.Fail(0)
	d.Power()
	wantFiles(t, d, map[string]string{nameOf(1): framed("aaaa", "aaaa"), nameOf(3): ""})
	open(t, d, 20, 1, "aaaa", "aaaa")
}

func TestAppendAtGreatest(t *testing.T) { // P16.3
	for _, tail := range []int{0, 1, 2} { // how many records may come
		begin := greatest - tail
		d := laid(t, map[string]string{nameOf(begin): ""})
		l := open(t, d, 1, begin)
		for i := range tail {
			wantAppend(t, l, "r", begin+i)
		}
		before, ops := probe.Files(d), d.Ops()
		sure := l.Sure()
		wantRefused(t, l, strings.Repeat("r", 1<<18+1), api.ErrLong) // ahead of ErrRoom
		for range 2 {
			wantRefused(t, l, "r", api.ErrRoom)
			wantRefused(t, l, "", api.ErrRoom)
			wantNumbers(t, l, begin, greatest, sure, true)
		}
		wantFiles(t, d, before)
		if d.Ops() != ops {
			t.Error("a record that is refused has made something")
		}
	}
	d := laid(t, map[string]string{nameOf(greatest): framed("r")})
	l := open(t, d, 100, greatest, "r")
	wantRefused(t, l, "r", api.ErrRoom)
}

func TestAppendWithoutFiles(t *testing.T) { // P16.3: ErrRoom by the disk's files
	files := map[string]string{}
	for i := range 63 {
		files[fmt.Sprintf("f%02d", i)] = ""
	}
	d := laid(t, files)
	l := open(t, d, 20, 1)
	wantAppend(t, l, "aaaa", 1)
	wantAppend(t, l, "bbbb", 2)
	wantNumbers(t, l, 1, 3, 0, true)
	files[nameOf(1)] = framed("aaaa", "bbbb")
	for range 3 {
		wantRefused(t, l, "cccc", api.ErrRoom)
		wantNumbers(t, l, 1, 3, 2, true) // the sync stays
		wantFiles(t, d, files)
	}
	wantSure(t, d)
	l = open(t, d, 20, 1, "aaaa", "bbbb")
	wantRefused(t, l, "cccc", api.ErrRoom)
	d.Drop("f07")
	wantAppend(t, l, "cccc", 3)
	open(t, d, 20, 1, "aaaa", "bbbb", "cccc")
}

func TestAppendWithoutRoom(t *testing.T) { // P16.3: ErrRoom by the disk's room
	d := disk.New(45)
	l := open(t, d, 20, 1)
	d.Make("other")
	d.Append("other", make([]byte, 20))
	wantAppend(t, l, "aaaa", 1)
	wantRefused(t, l, strings.Repeat("l", 17), api.ErrRoom) // it would stand in a segment of its own, which is made
	wantNumbers(t, l, 1, 2, 1, true)
	want := map[string]string{"other": string(make([]byte, 20)), nameOf(1): framed("aaaa"), nameOf(2): ""}
	wantFiles(t, d, want)
	wantRefused(t, l, strings.Repeat("l", 17), api.ErrRoom)
	wantFiles(t, d, want)
	wantAppend(t, l, "bbbb", 2) // into the segment that was made
	wantNumbers(t, l, 1, 3, 1, true)
	wantRefused(t, l, "cccc", api.ErrRoom) // in the same segment
	wantNumbers(t, l, 1, 3, 1, true)
	want[nameOf(2)] = framed("bbbb")
	wantFiles(t, d, want)
	open(t, d, 20, 1, "aaaa", "bbbb")
	d.Drop("other")
	l = open(t, d, 20, 1, "aaaa", "bbbb")
	wantAppend(t, l, "cccc", 3)
	open(t, d, 20, 1, "aaaa", "bbbb", "cccc")

	d = disk.New(15) // and opened when the segment that was made has no record yet
	l = open(t, d, 1, 1)
	wantAppend(t, l, "aaaa", 1)
	wantRefused(t, l, "bbbb", api.ErrRoom)
	l = open(t, d, 1, 1, "aaaa")
	wantRefused(t, l, "bbbb", api.ErrRoom)
	wantOK(t, "Retire", l.Retire(2))
	wantNumbers(t, l, 2, 2, 1, true)
	wantAppend(t, l, "bbbb", 2)
	open(t, d, 1, 2, "bbbb")
}

func TestAppendToLongFile(t *testing.T) { // P16.3: ErrRoom by a file's length, of which disk says ErrLong
	d := disk.New(probe.Ample)
	l := open(t, d, 20, 1)
	d.Append(nameOf(1), make([]byte, 1<<20-9)) // behind the log's back
	before := probe.Files(d)
	wantRefused(t, l, "aaaa", api.ErrRoom)
	wantNumbers(t, l, 1, 1, 0, true)
	wantFiles(t, d, before)
}

func TestFileErrors(t *testing.T) { // P16.3: disk's error
	d := disk.New(probe.Ample)
	l := open(t, d, 20, 1)
	wantAppend(t, l, "aaaa", 1)
	wantAppend(t, l, "aaaa", 2)
	d.Make(nameOf(3))
	wantRefused(t, l, "aaaa", api.ErrThere)
	wantNumbers(t, l, 1, 3, 2, true)
	d.Drop(nameOf(3))
	wantAppend(t, l, "aaaa", 3)
	d.Drop(nameOf(1))
	if e := l.Retire(3); e != api.ErrFile || l.First() != 1 {
		t.Errorf("Retire: %d, First %d", int(e), l.First())
	}
	d.Drop(nameOf(3))
	if e := l.Sync(); e != api.ErrFile || l.Sure() != 2 {
		t.Errorf("Sync: %d, Sure %d", int(e), l.Sure())
	}
	wantRefused(t, l, "", api.ErrFile)
	wantNumbers(t, l, 1, 4, 2, true)
}

func TestSyncAlways(t *testing.T) { // P16.3: the last segment is synced, when all is sure too
	d := disk.New(probe.Ample)
	l := open(t, d, 30, 1)
	wantAppend(t, l, "aaaa", 1)
	wantOK(t, "Sync", l.Sync())
	d.Arm(0, 0)
	if e := l.Sync(); e != api.ErrPower {
		t.Errorf("Sync: %d", int(e))
	}
	wantNumbers(t, l, 1, 2, 1, false)
}

func TestSync(t *testing.T) { // P16.3 and P16.4
	d := disk.New(probe.Ample)
	l := open(t, d, 30, 1)
	wantOK(t, "Sync", l.Sync())
	wantNumbers(t, l, 1, 1, 0, true)
	wantAppend(t, l, "aaaa", 1)
	wantNumbers(t, l, 1, 2, 0, true)
	for range 2 {
		wantOK(t, "Sync", l.Sync())
		wantNumbers(t, l, 1, 2, 1, true)
	}
	for i := range 3 {
		wantAppend(t, l, "bbbb", i+2)
	}
	wantNumbers(t, l, 1, 5, 3, true)
	wantOK(t, "Sync", l.Sync())
	wantNumbers(t, l, 1, 5, 4, true)
	wantAppend(t, l, "cccc", 5)
	d.Append(nameOf(4), []byte("\xb5"))
	d.Fail(0)
	d.Power()
	open(t, d, 30, 1, "aaaa", "bbbb", "bbbb", "bbbb")
}

// ten tells a log of ten records, two a segment: 1, 3, 5, 7, 9.
func ten(t *testing.T) (*disk.Disk, *wal.Log, []string) {
	t.Helper()
	d := disk.New(probe.Ample)
	l := open(t, d, 20, 1)
	var all []string
	for i := range 10 {
		all = append(all, fmt.Sprintf("r%03d", i+1))
		wantAppend(t, l, all[i], i+1)
	}
	wantNumbers(t, l, 1, 11, 8, true)
	return d, l, all
}

func TestRetire(t *testing.T) { // P16.3, P16.4 and P16.8
	for _, lsn := range []int{math.MinInt, -1, 0, 1, 2, 3, 4, 5, 6, 7, 8, 9, 10, 11, 12, 1 << 32, greatest, math.MaxInt} {
		d, l, all := ten(t)
		first := 1 + 2*((min(max(lsn, 1), 9)-1)/2)
		before := probe.Files(d)
		for range 2 {
			wantOK(t, "Retire", l.Retire(lsn))
			wantNumbers(t, l, first, 11, 8, true)
		}
		want := map[string]string{}
		for n := first; n <= 9; n += 2 {
			want[nameOf(n)] = before[nameOf(n)]
		}
		wantFiles(t, d, want)
		open(t, d, 20, first, all[first-1:]...)
		for below := range first { // what is gone stays so
			wantOK(t, "Retire", l.Retire(below))
		}
		wantNumbers(t, l, first, 11, 8, true)
		wantAppend(t, l, "more", 11)
		wantOK(t, "Sync", l.Sync())
		wantNumbers(t, l, first, 12, 11, true)
		open(t, d, 20, first, append(slices.Clone(all[first-1:]), "more")...)
	}
}

func TestRetireAll(t *testing.T) { // P16.3: the last segment never goes
	d := disk.New(probe.Ample)
	l := open(t, d, 1, 1)
	wantOK(t, "Retire", l.Retire(greatest))
	for i := range 200 { // in more segments than there may be at once
		wantAppend(t, l, "r", i+1)
		wantOK(t, "Retire", l.Retire(math.MaxInt))
		wantNumbers(t, l, i+1, i+2, i, true)
		wantFiles(t, d, map[string]string{nameOf(i + 1): framed("r")})
	}
	open(t, d, 1, 200, "r")
}

func TestRetireStruck(t *testing.T) { // P16.3 and P16.4: those that went ahead of an error are gone
	for n := range 4 {
		for _, keep := range []int{-1, 0, 3, 1000} {
			d, l, all := ten(t)
			d.Arm(n, keep)
			if e := l.Retire(99); e != api.ErrPower {
				t.Fatalf("Retire: %d", int(e))
			}
			first := 1 + 2*n
			wantNumbers(t, l, first, 11, 8, false)
			d.Power()
			left := all[first-1 : 8]
			if keep == 1000 {
				left = all[first-1:]
			}
			open(t, d, 20, first, left...)
		}
	}
}

func TestPower(t *testing.T) { // P16.3 and P16.4: a failure since the log was opened
	for _, armed := range []bool{false, true} {
		d, l, all := ten(t)
		if armed {
			d.Arm(0, 1000)
			wantRefused(t, l, "more", api.ErrPower)
		} else {
			d.Fail(1000)
		}
		for range 3 { // without power, with power, with a log that was opened since
			before, ops := probe.Files(d), d.Ops()
			wantNumbers(t, l, 1, 11, 8, false)
			wantRefused(t, l, "x", api.ErrPower)
			wantRefused(t, l, strings.Repeat("x", 1<<18+1), api.ErrPower) // ahead of ErrLong
			if e, f := l.Sync(), l.Retire(99); e != api.ErrPower || f != api.ErrPower {
				t.Fatalf("Sync %d, Retire %d", int(e), int(f))
			}
			wantNumbers(t, l, 1, 11, 8, false)
			wantFiles(t, d, before)
			if d.Ops() != ops {
				t.Fatal("a log whose power failed has done something")
			}
			if d.On() {
				other := open(t, d, 20, 1, all...)
				wantOK(t, "Sync", other.Sync())
			}
			d.Power()
		}
	}
}

func TestNoLog(t *testing.T) { // P16.3 and P16.4: a Log that no call made
	var none *wal.Log
	var zero wal.Log
	for _, l := range []*wal.Log{none, &zero, {}, new(wal.Log)} {
		for range 2 {
			for _, rec := range []string{"", "a", strings.Repeat("x", 1<<18+1)} {
				wantRefused(t, l, rec, api.ErrNil)
			}
			if n, e := l.Append(nil); n != 0 || e != api.ErrNil {
				t.Errorf("Append: %d, %d", n, int(e))
			}
			for _, lsn := range []int{math.MinInt, 0, 1, math.MaxInt} {
				if e := l.Retire(lsn); e != api.ErrNil {
					t.Errorf("Retire: %d", int(e))
				}
			}
			if e := l.Sync(); e != api.ErrNil {
				t.Errorf("Sync: %d", int(e))
			}
			wantNumbers(t, l, 0, 0, 0, false)
		}
	}
}
