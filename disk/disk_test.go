package disk_test

import (
	"fmt"
	"maps"
	"math"
	"math/rand/v2"
	"slices"
	"strings"
	"testing"

	"gemel/api"
	"gemel/disk"
	"gemel/probe"
)

// ample is room for whatever files have.
const ample = 1 << 30

// act is one call that may change a disk.
type act struct {
	kind string
	name string
	text string
	n    int
	keep int
}

func doMake(name string) act         { return act{kind: "make", name: name} }
func doAppend(name, text string) act { return act{kind: "append", name: name, text: text} }
func doSync(name string) act         { return act{kind: "sync", name: name} }
func doCut(name string, n int) act   { return act{kind: "cut", name: name, n: n} }
func doDrop(name string) act         { return act{kind: "drop", name: name} }
func doArm(n, keep int) act          { return act{kind: "arm", n: n, keep: keep} }
func doFail(keep int) act            { return act{kind: "fail", keep: keep} }
func doPower() act                   { return act{kind: "power"} }

// to does an act to a disk.
func (a act) to(d *disk.Disk) api.Errno {
	switch a.kind {
	case "make":
		return d.Make(a.name)
	case "append":
		return d.Append(a.name, []byte(a.text))
	case "sync":
		return d.Sync(a.name)
	case "cut":
		return d.Cut(a.name, a.n)
	case "drop":
		return d.Drop(a.name)
	case "arm":
		return d.Arm(a.n, a.keep)
	case "fail":
		return d.Fail(a.keep)
	}
	return d.Power()
}

// short tells an act in few words.
func (a act) short() string {
	return fmt.Sprintf("%s %.30q, %d bytes, n %d, keep %d", a.kind, a.name, len(a.text), a.n, a.keep)
}

// halves are a file's bytes: those that are sure, and those behind them.
type halves struct{ sure, behind string }

func (h halves) all() string { return h.sure + h.behind }

// plain is what a disk is to be, told in another way than the program tells it.
type plain struct {
	files            map[string]halves
	room, ops, fails int
	off              bool
	plan             []act // the one that armed it, if there is a plan
}

func newPlain(room int) *plain {
	return &plain{files: map[string]halves{}, room: room}
}

func (p *plain) used() int {
	used := 0
	for _, h := range p.files {
		used += len(h.all())
	}
	return used
}

// refuses tells with which error an act is refused.
func (p *plain) refuses(a act) api.Errno {
	h, there := p.files[a.name]
	size := len(h.all())
	switch {
	case a.kind == "power":
		return api.OK
	case p.off:
		return api.ErrPower
	case a.kind == "fail":
		return api.OK
	case a.kind == "arm" && a.n < 0:
		return api.ErrArg
	case a.kind == "arm":
		return api.OK
	case a.kind == "make" && (a.name == "" || len(a.name) > 24 || strings.Trim(a.name, "abcdefghijklmnopqrstuvwxyz0123456789") != ""):
		return api.ErrArg
	case a.kind == "make" && there:
		return api.ErrThere
	case a.kind == "make" && len(p.files) >= 64:
		return api.ErrRoom
	case a.kind == "make":
		return api.OK
	case !there:
		return api.ErrFile
	case a.kind == "append" && size+len(a.text) > 1<<20:
		return api.ErrLong
	case a.kind == "append" && p.used()+len(a.text) > p.room:
		return api.ErrRoom
	case a.kind == "cut" && (a.n < 0 || a.n > size):
		return api.ErrArg
	}
	return api.OK
}

// do does an act, and tells its error.
func (p *plain) do(a act) api.Errno {
	if e := p.refuses(a); e != api.OK {
		return e
	}
	switch a.kind {
	case "power":
		p.off = false
		return api.OK
	case "fail":
		p.fail(a.keep)
		return api.OK
	case "arm":
		p.plan = []act{a}
		return api.OK
	}
	if len(p.plan) > 0 && p.plan[0].n == 0 {
		if a.kind == "append" {
			p.operate(a)
		}
		p.fail(p.plan[0].keep)
		return api.ErrPower
	}
	if len(p.plan) > 0 {
		p.plan[0].n--
	}
	p.operate(a)
	p.ops++
	return api.OK
}

// operate does an operation to the files.
func (p *plain) operate(a act) {
	h := p.files[a.name]
	switch a.kind {
	case "make":
		p.files[a.name] = halves{}
	case "append":
		p.files[a.name] = halves{h.sure, h.behind + a.text}
	case "sync":
		p.files[a.name] = halves{h.all(), ""}
	case "cut":
		n := min(a.n, len(h.sure))
		p.files[a.name] = halves{h.sure[:n], h.all()[n:a.n]}
	case "drop":
		delete(p.files, a.name)
	}
}

func (p *plain) fail(keep int) {
	for name, h := range maps.Clone(p.files) {
		p.files[name] = halves{h.sure + h.behind[:max(0, min(keep, len(h.behind)))], ""}
	}
	p.off, p.plan = true, nil
	p.fails++
}

// pair is a disk and what it is to be, with all that was done to both.
type pair struct {
	t    *testing.T
	d    *disk.Disk
	p    *plain
	acts []act
}

func newPair(t *testing.T, room int) *pair {
	t.Helper()
	d := disk.New(room)
	if d == nil {
		t.Fatalf("New(%d) is nil", room)
	}
	x := &pair{t: t, d: d, p: newPlain(room)}
	x.look("at first")
	return x
}

// want does acts to both, which all are to have this error.
func (x *pair) want(e api.Errno, acts ...act) {
	x.t.Helper()
	for _, a := range acts {
		if told := x.p.do(a); told != e {
			x.t.Fatalf("the test wants %d of %s, and its own disk tells %d", int(e), a.short(), int(told))
		}
		x.acts = append(x.acts, a)
		if got := a.to(x.d); got != e {
			x.t.Fatalf("act %d, %s: %d, want %d", len(x.acts), a.short(), int(got), int(e))
		}
		x.look(a.short())
	}
}

// any does an act to both, whatever its error is.
func (x *pair) any(a act) {
	x.t.Helper()
	e := x.p.refuses(a)
	if e == api.OK && len(x.p.plan) > 0 && x.p.plan[0].n == 0 && strings.Contains("make append sync cut drop", a.kind) {
		e = api.ErrPower
	}
	x.want(e, a)
}

// look wants that all that is told of the disk is as it is to be.
func (x *pair) look(what string) {
	x.t.Helper()
	x.lookAt(what, x.d, x.p)
}

func (x *pair) lookAt(what string, d *disk.Disk, p *plain) {
	x.t.Helper()
	names := slices.Sorted(maps.Keys(p.files))
	if got := d.Names(); !slices.Equal(got, names) {
		x.t.Fatalf("behind %s: files %q, want %q", what, got, names)
	}
	if d.Used() != p.used() || d.Ops() != p.ops || d.Fails() != p.fails || d.On() == p.off {
		x.t.Fatalf("behind %s: Used %d, Ops %d, Fails %d, On %t, want %d, %d, %d, %t", what, d.Used(), d.Ops(), d.Fails(), d.On(), p.used(), p.ops, p.fails, !p.off)
	}
	for _, name := range names {
		want, e := p.files[name].all(), api.OK
		if p.off {
			want, e = "", api.ErrPower
		}
		if b, got := d.Read(name); string(b) != want || got != e {
			x.t.Fatalf("behind %s: %s has %d bytes %.40q, %d, want %d bytes %.40q, %d", what, name, len(b), b, int(got), len(want), want, int(e))
		}
	}
}

// keeps are those of failures.
var keeps = []int{math.MinInt, -1, 0, 1, 2, 3, 5, 1 << 20, 1 << 32, math.MaxInt}

// behind wants that a failure now, whatever it keeps, leaves what it is to leave, and a second one at once the same.
func (x *pair) behind() {
	x.t.Helper()
	for _, keep := range keeps {
		d, p := disk.New(x.p.room), newPlain(x.p.room)
		for _, a := range append(slices.Clone(x.acts), doPower(), doFail(keep), doPower()) {
			if got, want := a.to(d), p.do(a); got != want {
				x.t.Fatalf("done again, %s: %d, want %d", a.short(), int(got), int(want))
			}
		}
		x.lookAt("a failure", d, p)
		for _, again := range []int{-1, 0, 1} { // P15.6
			left := maps.Clone(p.files)
			for _, a := range []act{doFail(again), doPower()} {
				if got, want := a.to(d), p.do(a); got != want {
					x.t.Fatalf("%s again: %d, want %d", a.short(), int(got), int(want))
				}
			}
			x.lookAt("a second failure", d, p)
			if !maps.Equal(left, p.files) {
				x.t.Fatal("the test's own disk has lost something to a second failure")
			}
		}
	}
}

// oddNames tells names that are none, each with what a file's name is to have but for one thing.
func oddNames() []string {
	out := []string{"", strings.Repeat("a", 25), strings.Repeat("7", 26), strings.Repeat("z", 1000), "é", "aé", "ａ", "a b", "a\n", "w000000000001.log"}
	for c := range 256 {
		if c >= 'a' && c <= 'z' || c >= '0' && c <= '9' {
			continue
		}
		b := string([]byte{byte(c)})
		out = append(out, b, b+"a", "a"+b, "a"+b+"0", strings.Repeat("a", 23)+b)
	}
	return out
}

// names tells some names that are.
func names() []string {
	out := []string{"w000000000001", "c000000000001", strings.Repeat("a", 23), strings.Repeat("a", 24), strings.Repeat("9", 24), strings.Repeat("0z", 12)}
	for c := byte(0); c < 255; c++ {
		if c >= 'a' && c <= 'z' || c >= '0' && c <= '9' {
			out = append(out, string([]byte{c}), string([]byte{c, 'a'}), string([]byte{'0', c}))
		}
	}
	return out
}

func TestNew(t *testing.T) { // P15.1 and P15.2
	for _, room := range []int{math.MinInt, -1 << 32, -1 << 30, -2, -1, 1<<30 + 1, 1 << 31, 1 << 32, 1<<32 + 5, math.MaxInt} {
		if disk.New(room) != nil {
			t.Errorf("New(%d) is a disk", room)
		}
	}
	for _, room := range []int{0, 1, 2, 1000, 1<<30 - 1, 1 << 30} {
		x := newPair(t, room)
		x.want(api.OK, doMake("a"), doAppend("a", ""))
		text := strings.Repeat("x", min(room, 1<<20))
		if room < 1<<20 {
			x.want(api.ErrRoom, doAppend("a", text+"y"))
		}
		x.want(api.OK, doAppend("a", text), doAppend("a", ""), doSync("a"))
		if room < 1<<20 {
			x.want(api.ErrRoom, doAppend("a", "y"))
		}
		x.behind()
	}
}

func TestGood(t *testing.T) { // P15.1
	for _, name := range names() {
		if !disk.Good(name) {
			t.Errorf("Good(%q) is false", name)
		}
	}
	for _, name := range oddNames() {
		if disk.Good(name) {
			t.Errorf("Good(%q) is true", name)
		}
	}
	for n := range 60 {
		for _, c := range []string{"a", "z", "0", "9"} {
			if got := disk.Good(strings.Repeat(c, n)); got != (n >= 1 && n <= api.MaxFileName) {
				t.Errorf("Good of %d times %s is %t", n, c, got)
			}
		}
	}
}

func TestExample(t *testing.T) { // P15.1 to P15.3: the chapter's example
	d := disk.New(100)
	for i, e := range []api.Errno{d.Make("a"), d.Append("a", []byte("ab")), d.Sync("a"), d.Append("a", []byte("cd")), d.Fail(1), d.Power()} {
		if e != api.OK {
			t.Errorf("call %d: %d", i, int(e))
		}
	}
	if b, e := d.Read("a"); string(b) != "abc" || e != api.OK {
		t.Errorf("Read = %q, %d", b, int(e))
	}
}

func TestMake(t *testing.T) { // P15.1
	for _, name := range names() {
		x := newPair(t, 10)
		x.want(api.OK, doMake(name))
		x.want(api.ErrThere, doMake(name))
		x.want(api.OK, doAppend(name, "x"))
		x.want(api.ErrThere, doMake(name))
		x.want(api.OK, doSync(name))
		x.behind()
	}
	x := newPair(t, 10)
	for _, name := range oddNames() {
		x.want(api.ErrArg, doMake(name))
		x.want(api.ErrFile, doAppend(name, ""), doAppend(name, "x"), doSync(name), doCut(name, 0), doDrop(name))
	}
	x.behind() // a file that is made is there behind any failure, empty
	x.want(api.OK, doMake("a"))
	x.behind()
}

// filled tells a pair with so many files.
func filled(t *testing.T, room, files int) *pair {
	t.Helper()
	x := newPair(t, room)
	for i := range files {
		x.want(api.OK, doMake(fmt.Sprintf("f%02d", i)))
	}
	return x
}

func TestMaxFiles(t *testing.T) { // P15.1
	x := filled(t, 10, 63)
	x.want(api.OK, doMake("z"), doAppend("z", "bytes"))
	for _, name := range []string{"y", "zz", "f63", "0"} {
		x.want(api.ErrRoom, doMake(name))
	}
	x.want(api.ErrThere, doMake("z"), doMake("f00"), doMake("f62")) // ahead of ErrRoom
	x.want(api.ErrArg, doMake(""), doMake("A"), doMake(strings.Repeat("a", 25)))
	x.behind()
	x.want(api.OK, doDrop("z"), doMake("y"))
	x.want(api.ErrRoom, doMake("z"))
	x.want(api.OK, doDrop("f00"), doMake("z")) // the name is free again, its bytes are gone
	x.behind()
	x.want(api.OK, doFail(3))
	x.want(api.ErrPower, doMake("z"), doMake("new"), doMake(""))
	x.want(api.OK, doPower())
	x.want(api.ErrRoom, doMake("new"))
}

func TestMadeAgain(t *testing.T) { // P15.1
	x := newPair(t, 10)
	x.want(api.OK, doMake("a"), doAppend("a", "abcd"), doSync("a"), doDrop("a"), doMake("a"))
	x.behind()
	x.want(api.ErrArg, doCut("a", 1))
	x.want(api.OK, doAppend("a", "x"))
	x.behind() // nothing of it is sure
	x.want(api.OK, doDrop("a"))
	x.want(api.ErrFile, doAppend("a", "x"), doSync("a"), doCut("a", 0), doDrop("a"))
	x.behind()
}

func TestAppend(t *testing.T) { // P15.1
	x := newPair(t, 20)
	x.want(api.OK, doMake("a"), doMake("b"), doAppend("a", ""))
	x.behind()
	for _, text := range []string{"ab", "", "\x00\xff", "c"} {
		x.want(api.OK, doAppend("a", text), doAppend("b", text+text))
		x.behind()
	}
	if b, e := x.d.Read("a"); string(b) != "ab\x00\xffc" || e != api.OK {
		t.Errorf("Read = %q, %d", b, int(e))
	}
	x.want(api.OK, doSync("a"), doAppend("a", "more"))
	x.behind()
}

func TestAppendToMaxFile(t *testing.T) { // P15.1
	full := strings.Repeat("f", 1<<20)
	x := newPair(t, 3<<20)
	x.want(api.OK, doMake("a"))
	x.want(api.ErrLong, doAppend("a", full+"x"), doAppend("a", full+full))
	x.want(api.OK, doAppend("a", full))
	x.want(api.ErrLong, doAppend("a", "x"))
	x.want(api.OK, doAppend("a", ""), doCut("a", 1<<20-1))
	x.want(api.ErrLong, doAppend("a", "xy"))
	x.want(api.OK, doAppend("a", "x"), doMake("b"), doAppend("b", full[:5]))
	x.want(api.ErrLong, doAppend("b", full[:1<<20-4])) // bytes together, not those of one Append
	x.want(api.OK, doAppend("b", full[:1<<20-5]), doMake("c"), doAppend("c", full[:1<<20-1]))
	x.want(api.ErrLong, doAppend("c", "xy")) // ahead of ErrRoom: there is room for one byte
	x.want(api.OK, doAppend("c", "x"), doMake("d"))
	x.want(api.ErrRoom, doAppend("d", "x"), doAppend("d", full))
	x.want(api.ErrLong, doAppend("a", "x"), doAppend("d", full+"x"))
	x.want(api.ErrFile, doAppend("e", full+"x"), doAppend("e", "x"), doAppend("e", "")) // ahead of both
	x.behind()
}

func TestAppendToRoom(t *testing.T) { // P15.1: all files together
	for _, room := range []int{0, 1, 2, 3, 10, 100} {
		for _, files := range []int{1, 2, 3, 64} {
			x := filled(t, room, files)
			for i := range room {
				name := fmt.Sprintf("f%02d", i%files)
				x.want(api.ErrRoom, doAppend(name, strings.Repeat("x", room-i+1)))
				x.want(api.OK, doAppend(name, "x"))
			}
			for i := range files {
				name := fmt.Sprintf("f%02d", i)
				x.want(api.ErrRoom, doAppend(name, "x"), doAppend(name, strings.Repeat("x", 1<<20-room)))
				x.want(api.OK, doAppend(name, ""))
			}
		}
	}
	x := filled(t, 10, 3)
	x.want(api.OK, doAppend("f00", "0123"), doAppend("f01", "456"), doAppend("f02", "789"))
	x.want(api.ErrRoom, doAppend("f01", "x"))
	x.want(api.OK, doCut("f00", 2)) // what is cut, dropped or lost is room again
	x.want(api.ErrRoom, doAppend("f01", "xyz"))
	x.want(api.OK, doAppend("f01", "xy"), doSync("f01"), doDrop("f02"))
	x.want(api.ErrRoom, doAppend("f01", "wxyz"))
	x.want(api.OK, doAppend("f00", "xyz"), doSync("f00"), doMake("g"), doCut("f00", 4), doAppend("g", "z"), doFail(0), doPower())
	x.want(api.ErrRoom, doAppend("f01", "xy"))
	x.want(api.OK, doAppend("f01", "x"))
	x.behind()
}

func TestCut(t *testing.T) { // P15.1
	for sure := range 6 {
		for n := range 6 {
			x := newPair(t, 100)
			x.want(api.OK, doMake("a"), doMake("b"), doAppend("b", "other"), doAppend("a", "01234"[:sure]), doSync("a"), doAppend("a", "01234"[sure:]))
			x.want(api.ErrArg, doCut("a", -1), doCut("a", 6), doCut("a", math.MinInt), doCut("a", math.MaxInt), doCut("a", 1<<32))
			x.behind()
			x.want(api.OK, doCut("a", n))
			x.behind()
			x.want(api.ErrArg, doCut("a", n+1), doCut("a", 5+1), doCut("a", -1))
			x.want(api.OK, doCut("a", n), doAppend("a", "xyz"))
			x.behind()
			x.want(api.OK, doCut("a", n+1), doAppend("a", "w"), doSync("a"))
			x.behind()
			x.want(api.OK, doCut("a", 0))
			x.behind()
			x.want(api.OK, doAppend("a", "again"))
			x.behind()
		}
	}
	x := newPair(t, 10)
	x.want(api.OK, doMake("a"), doCut("a", 0))
	x.want(api.ErrArg, doCut("a", 1), doCut("a", -1))
	x.want(api.ErrFile, doCut("b", -1), doCut("b", 0), doCut("", 0), doCut("A", 1)) // ahead of ErrArg
}

func TestSync(t *testing.T) { // P15.1
	x := newPair(t, 100)
	x.want(api.ErrFile, doSync("a"), doSync(""), doSync("A"))
	x.want(api.OK, doMake("a"), doSync("a"), doSync("a"))
	x.behind()
	x.want(api.OK, doMake("b"), doAppend("a", "abc"), doAppend("b", "def"))
	x.behind()
	x.want(api.OK, doSync("a")) // of one file alone
	x.behind()
	x.want(api.OK, doSync("a"), doAppend("a", "gh"))
	x.behind()
	x.want(api.OK, doSync("b"), doAppend("b", "i"), doSync("b"), doSync("a"))
	x.behind()
}

func TestDrop(t *testing.T) { // P15.1
	x := newPair(t, 10)
	x.want(api.ErrFile, doDrop("a"), doDrop(""), doDrop("A"))
	x.want(api.OK, doMake("a"), doMake("ab"), doMake("b"), doAppend("a", "abcd"), doAppend("ab", "e"), doAppend("b", "fghij"), doSync("b"))
	x.want(api.ErrRoom, doAppend("ab", "x"))
	x.want(api.OK, doDrop("a"))
	x.want(api.ErrFile, doDrop("a"), doSync("a"), doCut("a", 0), doAppend("a", "x"))
	x.behind() // what is dropped is gone, whatever was sure
	x.want(api.OK, doAppend("ab", "xyzw"))
	x.want(api.ErrRoom, doAppend("ab", "x"))
	x.want(api.OK, doDrop("b"), doAppend("ab", "01234"))
	x.behind()
	x.want(api.OK, doDrop("ab"))
	x.behind()
}

func TestFail(t *testing.T) { // P15.3 and P15.4
	for _, keep := range keeps {
		x := newPair(t, 1000)
		x.want(api.OK, doMake("a"), doMake("b"), doMake("c"), doMake("d"), doMake("e"))
		x.want(api.OK, doAppend("b", "sure"), doSync("b"), doAppend("c", "unsure"), doAppend("d", "su"), doSync("d"), doAppend("d", "r"), doAppend("e", "s"), doSync("e"), doAppend("e", "ure"))
		x.want(api.OK, doFail(keep))
		kept := max(0, min(keep, 6))
		x.want(api.OK, doPower())
		for name, want := range map[string]string{"a": "", "b": "sure", "c": "unsure"[:kept], "d": "sur"[:2+min(kept, 1)], "e": "sure"[:1+min(kept, 3)]} {
			if b, e := x.d.Read(name); string(b) != want || e != api.OK {
				t.Errorf("keep %d: %s has %q, %d, want %q", keep, name, b, int(e), want)
			}
		}
		x.behind() // all that is left is sure
		x.want(api.OK, doAppend("c", "more"), doAppend("a", "x"))
		x.behind()
		x.want(api.OK, doFail(1), doPower(), doFail(keep), doPower(), doSync("c"))
		x.behind()
	}
}

func TestSureBehindFailures(t *testing.T) { // P15.4
	for _, run := range []struct {
		done []act
		sure int // bytes of 012345
	}{
		{[]act{doMake("a"), doAppend("a", "01"), doAppend("a", "2"), doAppend("a", "345")}, 0},
		{[]act{doMake("a"), doAppend("a", "0123"), doSync("a"), doCut("a", 2), doAppend("a", "2345")}, 2},
		{[]act{doMake("a"), doAppend("a", "01"), doSync("a"), doAppend("a", "xyz"), doCut("a", 2), doAppend("a", "2345")}, 2},
		{[]act{doMake("a"), doAppend("a", "01xyz"), doSync("a"), doDrop("a"), doMake("a"), doAppend("a", "012345")}, 0},
		{[]act{doMake("a"), doAppend("a", "0xyz"), doSync("a"), doCut("a", 1), doSync("a"), doAppend("a", "12345"), doSync("a")}, 6},
		{[]act{doMake("a"), doAppend("a", "0xyz"), doSync("a"), doCut("a", 0), doAppend("a", "012"), doSync("a"), doAppend("a", "345")}, 3},
	} {
		for _, keep := range keeps {
			x := newPair(t, 100)
			x.want(api.OK, run.done...)
			x.want(api.OK, doFail(keep), doPower())
			want := "012345"[:run.sure+max(0, min(keep, 6-run.sure))]
			if b, e := x.d.Read("a"); string(b) != want || e != api.OK {
				t.Errorf("keep %d behind %v: %q, %d, want %q", keep, run.done, b, int(e), want)
			}
		}
	}
}

// everything are calls of each kind, by which those that are refused can be told from others.
func everything() []act {
	return []act{doMake("a"), doMake("new"), doMake(""), doAppend("a", ""), doAppend("a", "x"), doAppend("b", "x"), doAppend("a", strings.Repeat("x", 1<<20+1)), doSync("a"), doSync("b"), doCut("a", 0), doCut("a", -1), doCut("b", 0), doDrop("a"), doDrop("b"), doArm(0, 0), doArm(-1, 0), doArm(5, 1), doFail(0), doFail(-1), doFail(9)}
}

func TestWithoutPower(t *testing.T) { // P15.1, P15.2 and P15.3
	x := newPair(t, 10)
	x.want(api.OK, doMake("a"), doAppend("a", "abcd"), doSync("a"), doAppend("a", "ef"), doPower(), doPower()) // nothing changes
	x.behind()
	x.want(api.OK, doFail(1))
	x.want(api.ErrPower, everything()...)
	for _, name := range []string{"a", "b", "", "A"} {
		if b, e := x.d.Read(name); len(b) != 0 || e != api.ErrPower {
			t.Errorf("Read(%q) without power: %q, %d", name, b, int(e))
		}
	}
	if names, used := x.d.Names(), x.d.Used(); !slices.Equal(names, []string{"a"}) || used != 5 || x.d.On() || x.d.Fails() != 1 || x.d.Ops() != 4 {
		t.Errorf("Names %q, Used %d", names, used)
	}
	x.want(api.OK, doPower())
	x.behind()
	x.want(api.OK, doPower(), doAppend("a", "gh"))
	x.behind()
}

func TestRefused(t *testing.T) { // P15.5
	full := filled(t, 10, 63)
	full.want(api.OK, doMake("a"), doAppend("a", "01"), doSync("a"), doAppend("a", "234"), doAppend("f01", "5"))
	for _, a := range []act{doArm(1, 2), doPower()} { // with a plan and without one
		full.want(api.OK, a)
		full.want(api.ErrArg, doMake(""), doMake("A"), doCut("a", -1), doCut("a", 6), doArm(-1, 0), doArm(math.MinInt, 9))
		full.want(api.ErrThere, doMake("a"), doMake("f62"))
		full.want(api.ErrRoom, doMake("new"), doAppend("a", "56789"), doAppend("f00", "56789"))
		full.want(api.ErrFile, doAppend("new", ""), doSync("new"), doCut("new", 0), doDrop("new"))
		full.want(api.ErrLong, doAppend("a", strings.Repeat("x", 1<<20)))
		full.behind()
	}
	full.want(api.OK, doAppend("a", "")) // the plan is still that of Arm(1, 2)
	full.want(api.ErrPower, doSync("a"))
	full.want(api.OK, doPower())
	if b, _ := full.d.Read("a"); string(b) != "0123" {
		t.Errorf("a has %q", b)
	}
}

func TestReadErrors(t *testing.T) { // P15.2
	x := newPair(t, 10)
	x.want(api.OK, doMake("a"), doMake("ab"), doAppend("ab", "x"))
	for _, name := range append(oddNames(), "b", "aa", "abc") {
		if b, e := x.d.Read(name); len(b) != 0 || e != api.ErrFile {
			t.Errorf("Read(%q) = %q, %d", name, b, int(e))
		}
	}
	x.want(api.OK, doDrop("ab"))
	if b, e := x.d.Read("ab"); len(b) != 0 || e != api.ErrFile {
		t.Errorf("Read of what was dropped = %q, %d", b, int(e))
	}
	if b, e := x.d.Read("a"); len(b) != 0 || e != api.OK {
		t.Errorf("Read of an empty file = %q, %d", b, int(e))
	}
}

func TestNames(t *testing.T) { // P15.2
	want := []string{"0", "00", "09", "0a", "1", "10", "9", "a", "a0", "a00", "aa", "aaa", "ab", "b", "w000000000001", "w000000000002", "w000000000010", "z", "z9", "za", "zz"}
	r := rand.New(rand.NewPCG(151, 152))
	for range 50 {
		x := newPair(t, 100)
		mixed := slices.Clone(want)
		r.Shuffle(len(mixed), func(i, k int) { mixed[i], mixed[k] = mixed[k], mixed[i] })
		for _, name := range mixed {
			x.want(api.OK, doMake(name))
		}
		for range 2 { // with power and without it
			for range 3 {
				if got := x.d.Names(); !slices.Equal(got, want) {
					t.Fatalf("Names = %q", got)
				}
			}
			x.any(doFail(0))
		}
		x.want(api.OK, doPower(), doDrop("a00"))
		if got := x.d.Names(); slices.Contains(got, "a00") || len(got) != len(want)-1 {
			t.Fatalf("Names behind a Drop = %q", got)
		}
	}
}

func TestArm(t *testing.T) { // P15.3
	for _, n := range []int{0, 1, 2, 3, 7} {
		for _, keep := range keeps {
			x := newPair(t, 100)
			x.want(api.OK, doMake("a"), doAppend("a", "0123"), doSync("a"), doMake("b"), doArm(n, keep))
			for i := range n {
				x.want(api.OK, []act{doAppend("a", "4567"), doAppend("b", "01"), doSync("b"), doAppend("b", "234")}[i%4])
			}
			x.want(api.ErrPower, doAppend("a", "xyz"), doAppend("a", "xyz"), doSync("a")) // the first one is struck, to the others there is no power
			x.want(api.OK, doPower())
			x.behind()
			for range 10 { // there is no plan any more
				x.want(api.OK, doAppend("a", "."), doAppend("b", ""))
			}
			x.behind()
		}
	}
	for _, n := range []int{1 << 32, math.MaxInt} {
		x := newPair(t, 100)
		x.want(api.OK, doArm(n, 0), doMake("a"), doAppend("a", "x"), doSync("a"), doCut("a", 0), doDrop("a"))
	}
}

func TestArmErrors(t *testing.T) { // P15.3
	for _, n := range []int{-1, -2, -1 << 32, math.MinInt} {
		for _, keep := range keeps {
			x := newPair(t, 100)
			x.want(api.OK, doMake("a"))
			x.want(api.ErrArg, doArm(n, keep))
			x.want(api.OK, doAppend("a", "x"), doAppend("a", "y"), doArm(1, 1))
			x.want(api.ErrArg, doArm(n, keep)) // the plan stays
			x.want(api.OK, doAppend("a", "z"))
			x.want(api.ErrPower, doSync("a"), doArm(n, keep), doArm(1, keep)) // ErrPower goes ahead
			x.want(api.OK, doPower(), doSync("a"), doSync("a"))
			x.behind()
		}
	}
}

func TestStruck(t *testing.T) { // P15.3: an operation of each kind
	for _, keep := range keeps {
		for _, a := range []act{doMake("new"), doAppend("a", ""), doAppend("a", "x"), doAppend("a", "xyz"), doAppend("b", "xyz"), doAppend("c", "xyz"), doSync("a"), doSync("b"), doSync("c"), doCut("a", 0), doCut("a", 1), doCut("a", 3), doCut("a", 4), doDrop("a"), doDrop("b"), doDrop("c")} {
			x := newPair(t, 100)
			x.want(api.OK, doMake("a"), doMake("b"), doMake("c"), doAppend("a", "01"), doSync("a"), doAppend("a", "23"), doAppend("b", "4567"))
			x.want(api.OK, doArm(0, keep))
			x.want(api.ErrPower, a)
			if x.d.On() || x.d.Fails() != 1 || x.d.Ops() != 7 { // the one in which the power fails is none
				t.Errorf("behind %s: On %t, Fails %d, Ops %d", a.short(), x.d.On(), x.d.Fails(), x.d.Ops())
			}
			x.want(api.OK, doPower())
			x.behind()
			x.want(api.OK, doDrop("a"), doDrop("b"), doDrop("c"), doMake("new"), doMake("a"))
		}
	}
}

func TestStruckAppend(t *testing.T) { // P15.3: its bytes stand at the file's end ahead of the failure, and are not sure
	for keep, want := range map[int]string{-1: "ab", 0: "ab", 1: "abc", 2: "abcd", 3: "abcde", 4: "abcdef", 5: "abcdef", 100: "abcdef"} {
		d := disk.New(6)
		d.Make("a")
		d.Append("a", []byte("ab"))
		d.Sync("a")
		d.Append("a", []byte("cd"))
		d.Arm(0, keep)
		if e := d.Append("a", []byte("efg")); e != api.ErrRoom || !d.On() {
			t.Errorf("an Append without room: %d", int(e))
		}
		if e := d.Append("a", []byte("ef")); e != api.ErrPower || d.On() || d.Used() != len(want) {
			t.Errorf("keep %d: %d, Used %d", keep, int(e), d.Used())
		}
		d.Power()
		if b, e := d.Read("a"); string(b) != want || e != api.OK {
			t.Errorf("keep %d: %q, %d, want %q", keep, b, int(e), want)
		}
	}
}

func TestPlans(t *testing.T) { // P15.3
	x := newPair(t, 100)
	x.want(api.OK, doMake("a"), doArm(0, 9), doArm(2, 1)) // another plan goes
	x.want(api.OK, doAppend("a", "ab"), doArm(1, 2), doAppend("a", "cd"))
	x.want(api.ErrPower, doSync("a"))
	x.want(api.OK, doPower())
	x.behind()
	x.want(api.OK, doArm(0, 9), doFail(0), doPower(), doAppend("a", "x"), doSync("a")) // a Fail ends a plan
	x.behind()
	x.want(api.OK, doArm(1, 0), doPower(), doPower(), doAppend("a", "y")) // Power does not, with power
	x.want(api.ErrPower, doCut("a", 0))
	x.want(api.OK, doPower(), doArm(2, 0))
	for range 20 { // what is refused, and what is no operation, counts for nothing
		x.want(api.ErrThere, doMake("a"))
		x.want(api.ErrArg, doMake("A"), doCut("a", 99), doArm(-1, 0))
		x.want(api.ErrFile, doAppend("b", "x"), doSync("b"), doDrop("b"), doCut("b", 0))
		x.want(api.ErrRoom, doAppend("a", strings.Repeat("x", 100)))
		x.want(api.ErrLong, doAppend("a", strings.Repeat("x", 1<<20)))
		x.d.Read("a")
		x.d.Names()
	}
	x.want(api.OK, doAppend("a", ""), doAppend("a", "z"))
	x.want(api.ErrFile, doSync("b"))
	x.want(api.ErrPower, doDrop("a"))
	x.want(api.OK, doPower())
	x.behind()
}

func TestCounts(t *testing.T) { // P15.2
	d := disk.New(100)
	for i, e := range []api.Errno{d.Make("a"), d.Append("a", nil), d.Append("a", []byte("abc")), d.Sync("a"), d.Sync("a"), d.Cut("a", 3), d.Cut("a", 1), d.Make("b"), d.Drop("b")} {
		if e != api.OK {
			t.Errorf("call %d: %d", i, int(e))
		}
	}
	if d.Ops() != 9 || d.Fails() != 0 {
		t.Errorf("Ops %d, Fails %d", d.Ops(), d.Fails())
	}
	d.Make("a")
	d.Sync("b")
	d.Cut("a", 2)
	d.Append("b", nil)
	d.Append("a", make([]byte, 100))
	d.Drop("b")
	d.Read("a")
	d.Arm(3, 1)
	d.Power()
	if d.Ops() != 9 || d.Fails() != 0 {
		t.Errorf("behind what is refused: Ops %d, Fails %d", d.Ops(), d.Fails())
	}
	d.Fail(0)
	d.Fail(0)
	d.Make("c")
	if d.Ops() != 9 || d.Fails() != 1 {
		t.Errorf("without power: Ops %d, Fails %d", d.Ops(), d.Fails())
	}
	d.Power()
	d.Arm(1, 0)
	d.Make("c")
	if e := d.Make("d"); e != api.ErrPower || d.Fails() != 2 || d.Ops() != 10 { // what is not done is no operation
		t.Errorf("behind a plan: %d, Fails %d, Ops %d", int(e), d.Fails(), d.Ops())
	}
	d.Power()
	d.Power()
	if d.Ops() != 10 {
		t.Errorf("with power again: Ops %d", d.Ops())
	}
	d.Fail(1)
	if d.Fails() != 3 {
		t.Errorf("Fails %d", d.Fails())
	}
}

// chosen tells any act.
func chosen(r *rand.Rand, names []string) act {
	name := names[r.IntN(len(names))]
	switch r.IntN(20) {
	case 0, 1, 2:
		return doMake(name)
	case 3, 4, 5:
		return doSync(name)
	case 6, 7, 8:
		return doCut(name, r.IntN(8)-1)
	case 9:
		return doDrop(name)
	case 10:
		return doArm(r.IntN(8)-1, keeps[r.IntN(len(keeps))])
	case 11:
		return doFail(keeps[r.IntN(len(keeps))])
	case 12, 13, 14:
		return doPower()
	}
	return doAppend(name, "0123456789abcdef"[r.IntN(8):][:r.IntN(7)])
}

func TestAnything(t *testing.T) { // P15.1 to P15.6: whatever is done, in whatever order
	r := rand.New(rand.NewPCG(153, 154))
	for turn := range 60 {
		x := newPair(t, 5+turn)
		list := [][]string{{"a"}, {"a", "b", "", "A"}, {"a", "ab", "b", "0", strings.Repeat("z", 24), strings.Repeat("z", 25)}}[turn%3]
		for i := range 400 {
			x.any(chosen(r, list))
			if i%40 == 0 {
				x.behind()
			}
		}
	}
}

func TestDisksApart(t *testing.T) { // rule 5: a disk's answers hang on what was done to it alone
	one, two := newPair(t, 10), newPair(t, 20)
	one.want(api.OK, doMake("a"), doAppend("a", "0123456789"), doArm(3, 1))
	two.look("what was done to another disk")
	two.want(api.OK, doMake("a"), doMake("b"), doAppend("a", "x"), doSync("a"), doDrop("b"), doFail(0))
	one.look("what was done to another disk")
	one.want(api.OK, doSync("a"))
	two.want(api.OK, doPower(), doAppend("a", "0123456789"))
	one.behind()
	two.behind()
}

func TestNoDisk(t *testing.T) { // P15.1 to P15.3: a Disk that no call made
	var none *disk.Disk
	var zero disk.Disk
	for _, d := range []*disk.Disk{none, &zero, {}, new(disk.Disk)} {
		for range 2 { // and nothing is done
			for _, a := range append(everything(), doPower()) {
				if e := a.to(d); e != api.ErrNil {
					t.Errorf("%s: %d", a.short(), int(e))
				}
				if len(d.Names()) != 0 || d.Used() != 0 || d.Ops() != 0 || d.Fails() != 0 || d.On() {
					t.Errorf("behind %s: Names %q, Used %d, Ops %d, Fails %d, On %t", a.short(), d.Names(), d.Used(), d.Ops(), d.Fails(), d.On())
				}
			}
			for _, name := range []string{"", "a", "A"} {
				if b, e := d.Read(name); len(b) != 0 || e != api.ErrNil {
					t.Errorf("Read(%q) = %q, %d", name, b, int(e))
				}
			}
		}
	}
}

func TestHandedInStays(t *testing.T) { // rules 4 and 8
	for _, ahead := range []string{"", "ab"} {
		for _, struck := range []bool{false, true} {
			for _, text := range []string{"", "x", "some bytes", strings.Repeat("x", 5000)} {
				d := disk.New(ample)
				d.Make("a")
				d.Append("a", []byte(ahead))
				if struck {
					d.Arm(0, 1<<20)
				}
				b, whole := probe.Roomy([]byte(text), '!')
				before := slices.Clone(whole)
				d.Append("a", b)
				d.Power()
				d.Append("a", []byte("cd")) // nor is what comes behind it laid in its spare room
				d.Sync("a")
				if !slices.Equal(whole, before) {
					t.Errorf("Append has changed what it was given: %.40q", whole)
				}
				for i := range whole {
					whole[i] = '?'
				}
				d.Fail(0)
				d.Power()
				if got, e := d.Read("a"); string(got) != ahead+text+"cd" || e != api.OK {
					t.Errorf("Read = %.40q, %d", got, int(e))
				}
			}
		}
	}
}

func TestHandedOutIsNew(t *testing.T) { // rules 4 and 8
	for _, text := range []string{"x", "some bytes", strings.Repeat("x", 5000)} {
		x := newPair(t, ample)
		x.want(api.OK, doMake("a"), doMake("b"), doAppend("a", text+"behind"), doAppend("b", text), doSync("a"), doCut("a", len(text)))
		var reads [][]byte
		for _, name := range []string{"a", "a", "b"} {
			b, _ := x.d.Read(name)
			if strings.Trim(string(b[len(b):cap(b)]), "\x00") != "" {
				t.Errorf("spare room of %.40q has %.40q", b, b[len(b):cap(b)])
			}
			reads = append(reads, b)
		}
		lists := [][]string{x.d.Names(), x.d.Names()}
		if !probe.Apart(reads...) || !probe.Apart(lists...) {
			t.Error("lists that were handed out share memory")
		}
		for _, b := range reads {
			b = b[:cap(b)]
			for i := range b {
				b[i] = '?'
			}
		}
		for _, l := range lists {
			l = l[:cap(l)]
			for i := range l {
				l[i] = "spoilt"
			}
		}
		x.look("what was handed out was written over")
		x.want(api.OK, doAppend("a", "more"))
		x.behind()
	}
}
