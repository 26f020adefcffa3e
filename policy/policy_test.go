package policy_test

import (
	"bytes"
	"fmt"
	"math"
	"math/rand/v2"
	"regexp"
	"slices"
	"strings"
	"testing"

	"gemel/api"
	"gemel/policy"
	"gemel/probe"
)

// a name of as many letters as may be, and one of one more.
const (
	full = "abcdefghijkl"
	over = "abcdefghijklm"
)

// noPolicies are numbers of no policy.
var noPolicies = []int{math.MinInt, -2, -1, 0, 3, 4, 257, 258, 1<<32 + 1, math.MaxInt}

// groups tells groups out of names and policies that take turns.
func groups(parts ...any) []api.Group {
	var out []api.Group
	for i := 0; i < len(parts); i += 2 {
		out = append(out, api.Group{Name: parts[i].(string), Policy: parts[i+1].(int)})
	}
	return out
}

// some tells schemas of each count of groups; always the same ones.
func some() [][]api.Group {
	r := rand.New(rand.NewPCG(31, 32))
	out := [][]api.Group{
		groups("a", 1), groups("z", 2), groups(full, 1), groups("name", 1, "tags", 2), groups("last", 2, "delete", 1),
		groups("a", 1, "aa", 1, "aaa", 1), groups("d", 2, "c", 1, "b", 2, "a", 1), groups(full, 2, full[1:], 2, full[2:], 2, full[:11], 2),
	}
	for len(out) < 300 {
		var l []api.Group
		for range 1 + r.IntN(api.MaxGroups) {
			name := make([]byte, 1+r.IntN(api.MaxName))
			for i := range name {
				name[i] = byte('a' + r.IntN(26))
			}
			l = append(l, api.Group{Name: string(name), Policy: 1 + r.IntN(2)})
		}
		if isSchema(l) {
			out = append(out, l)
		}
	}
	return out
}

// none are groups that are no schema, with the error that Good names of them first.
var none = []struct {
	l    []api.Group
	want api.Errno
}{
	{nil, api.ErrArg},
	{[]api.Group{}, api.ErrArg},
	{groups("", 1), api.ErrArg},
	{groups("", 2), api.ErrArg},
	{groups(over, 1), api.ErrArg},
	{groups(strings.Repeat("a", 5000), 1), api.ErrArg},
	{groups("A", 1), api.ErrArg},
	{groups("aB", 1), api.ErrArg},
	{groups("a1", 1), api.ErrArg},
	{groups("a b", 1), api.ErrArg},
	{groups(" a", 1), api.ErrArg},
	{groups("a_b", 1), api.ErrArg},
	{groups("é", 1), api.ErrArg},
	{groups("a\xff", 1), api.ErrArg},
	{groups("\xe1", 1), api.ErrArg}, // a's byte with its highest bit set
	{groups("š", 1), api.ErrArg},    // its rune ends in a's byte
	{groups("a\x00", 1), api.ErrArg},
	{groups("a=last", 1), api.ErrArg},
	{groups("a,b", 1), api.ErrArg},
	{groups("a", 0), api.ErrArg},
	{groups("a", 3), api.ErrArg},
	{groups("a", -1), api.ErrArg},
	{groups("a", 1, "b", 3), api.ErrArg},
	{groups("a", 1, "", 1), api.ErrArg},
	{groups("a", 1, "b", 1, "c", 2, "D", 1), api.ErrArg},
	{make([]api.Group, 5), api.ErrLong}, // too many go ahead of what the groups are
	{groups("a", 1, "b", 1, "c", 1, "d", 1, "e", 1), api.ErrLong},
	{groups("a", 1, "a", 1, "A", 1, "d", 1, "e", 9), api.ErrLong},
	{make([]api.Group, 5000), api.ErrLong},
	{groups("a", 1, "a", 1), api.ErrGroup},
	{groups("a", 1, "a", 2), api.ErrGroup},
	{groups("a", 1, "b", 1, "b", 2), api.ErrGroup},
	{groups("a", 1, "b", 1, "a", 1), api.ErrGroup},
	{groups("a", 1, "b", 1, "c", 1, "a", 2), api.ErrGroup},
	{groups("a", 1, "b", 1, "c", 1, "c", 2), api.ErrGroup},
	{groups("a", 1, "b", 1, "b", 1, "a", 1), api.ErrGroup},
	{groups("a", 1, "a", 3), api.ErrArg},                   // both in one group: ErrArg goes ahead
	{groups("a", 1, "a", 0), api.ErrArg},                   //
	{groups("", 1, "", 1), api.ErrArg},                     //
	{groups("a", 3, "a", 1), api.ErrArg},                   // one in each of two groups: the first one's
	{groups("A", 1, "a", 1, "a", 1), api.ErrArg},           //
	{groups("a", 1, "a", 1, "b", 3), api.ErrGroup},         //
	{groups("a", 1, "a", 1, "", 1), api.ErrGroup},          //
	{groups("a", 1, "b", 0, "a", 1), api.ErrArg},           //
	{groups("a", 1, "b", 2, "a", 1, "B", 1), api.ErrGroup}, //
}

var rightName = regexp.MustCompile(`\A[a-z]{1,12}\z`)

// isSchema tells in another way than the program does whether groups are a schema.
func isSchema(l []api.Group) bool {
	for i, g := range l {
		if !rightName.MatchString(g.Name) || g.Policy < 1 || g.Policy > 2 {
			return false
		}
		for _, other := range l[:i] {
			if other.Name == g.Name {
				return false
			}
		}
	}
	return len(l) >= 1 && len(l) <= 4
}

// bytesOf tells what groups' bytes are to be, whether they are a schema or not.
func bytesOf(l []api.Group) []byte {
	b := probe.Laid(len(l))
	for _, g := range l {
		b = slices.Concat(b, probe.Laid(len(g.Name)), []byte(g.Name), probe.Laid(g.Policy))
	}
	return b
}

// textOf tells what a schema's text is to be.
func textOf(l []api.Group) string {
	s := ""
	for _, g := range l {
		s += fmt.Sprintf(",%s=%s", g.Name, map[int]string{1: "last", 2: "delete"}[g.Policy])
	}
	return s[1:]
}

func wantGood(t *testing.T, l []api.Group, want api.Errno) {
	t.Helper()
	if e := policy.Good(l); e != want {
		t.Errorf("Good(%.40v) = %d, want %d", l, int(e), int(want))
	}
}

func TestGood(t *testing.T) { // P7.1
	for _, l := range some() {
		wantGood(t, l, api.OK)
	}
	for _, c := range none {
		wantGood(t, c.l, c.want)
	}
	wantGood(t, groups("a", 1), api.OK)
	wantGood(t, groups("a", 1, "b", 2), api.OK)
	wantGood(t, groups("a", 1, "b", 2, "c", 1), api.OK)
	wantGood(t, groups("a", 1, "b", 2, "c", 1, "d", 2), api.OK)
	wantGood(t, groups("a", 1, "ab", 2, "abc", 1, "b", 2), api.OK) // one that begins another one is another one
}

func TestGoodNames(t *testing.T) { // P7.1
	for c := range 256 {
		want := api.ErrArg
		if c >= 'a' && c <= 'z' {
			want = api.OK
		}
		for _, ahead := range []string{"", "b", "bcdefghijkl"} {
			for _, behind := range []string{"", "b", "bcdefghijkl"} {
				name := ahead + string([]byte{byte(c)}) + behind
				if len(name) <= api.MaxName {
					wantGood(t, groups(name, 1), want)
					wantGood(t, groups("other", 2, name, 2), want)
				}
			}
		}
	}
	for size := range 70 {
		want := api.OK
		if size < 1 || size > api.MaxName {
			want = api.ErrArg
		}
		wantGood(t, groups(strings.Repeat("q", size), 1), want)
	}
	wantGood(t, groups(strings.Repeat("é", 6), 1), api.ErrArg)
	wantGood(t, groups(strings.Repeat("é", 12), 1), api.ErrArg)
}

func TestGoodPolicies(t *testing.T) { // P7.1
	wantGood(t, groups("a", api.LastWins), api.OK)
	wantGood(t, groups("a", api.DeleteWins), api.OK)
	for _, p := range noPolicies {
		wantGood(t, groups("a", p), api.ErrArg)
		wantGood(t, groups("a", p, "b", 1), api.ErrArg)
		wantGood(t, groups("b", 1, "c", 2, "d", 2, "a", p), api.ErrArg)
	}
}

func wantFind(t *testing.T, l []api.Group, name string, want int, wantE api.Errno) {
	t.Helper()
	if i, e := policy.Find(l, name); i != want || e != wantE {
		t.Errorf("Find(%.40v, %.40q) = %d, %d, want %d, %d", l, name, i, int(e), want, int(wantE))
	}
}

func TestFind(t *testing.T) { // P7.2
	for _, l := range some() {
		for i, g := range l {
			wantFind(t, l, g.Name, i, api.OK)
		}
		for _, name := range []string{"", "nosuch", "A", over, "a=last", "\xff", l[0].Name + "\x00", strings.ToUpper(l[0].Name), strings.Repeat("a", 5000), l[0].Name + l[0].Name + "abcdefghijkl"} {
			wantFind(t, l, name, 0, api.ErrGroup)
		}
	}
	l := groups("aa", 1, "aaa", 2, "aab", 1)
	wantFind(t, l, "aaa", 1, api.OK)
	wantFind(t, l, "aab", 2, api.OK)
	wantFind(t, l, "a", 0, api.ErrGroup) // begins names, and is none
	wantFind(t, l, "aaaa", 0, api.ErrGroup)
}

func TestFindOfNone(t *testing.T) { // P7.2
	for _, c := range none {
		names := []string{"", "a", "nosuch"}
		for _, g := range c.l {
			names = append(names, g.Name)
		}
		for _, name := range slices.Compact(names) {
			wantFind(t, c.l, name, 0, c.want)
		}
	}
}

func wantOf(t *testing.T, l []api.Group, group, want int, wantE api.Errno) {
	t.Helper()
	if p, e := policy.Of(l, group); p != want || e != wantE {
		t.Errorf("Of(%.40v, %d) = %d, %d, want %d, %d", l, group, p, int(e), want, int(wantE))
	}
}

func TestOf(t *testing.T) { // P7.2
	for _, l := range some() {
		for i, g := range l {
			wantOf(t, l, i, g.Policy, api.OK)
		}
		for _, i := range []int{math.MinInt, -len(l), -1, len(l), len(l) + 1, 4, 1 << 32, math.MaxInt} {
			wantOf(t, l, i, 0, api.ErrGroup)
		}
	}
	for _, c := range none {
		for i := -1; i <= min(len(c.l), 6); i++ {
			wantOf(t, c.l, i, 0, c.want)
		}
	}
}

func TestEncode(t *testing.T) { // P7.3
	if b, e := policy.Encode(groups("name", 1, "tags", 2)); string(b) != "\x02\x04name\x01\x04tags\x02" || e != api.OK {
		t.Errorf("Encode = %x, %d", b, int(e))
	}
	for _, l := range some() {
		if b, e := policy.Encode(l); !bytes.Equal(b, bytesOf(l)) || e != api.OK {
			t.Errorf("Encode(%v) = %x, %d", l, b, int(e))
		}
	}
	for _, c := range none {
		if b, e := policy.Encode(c.l); len(b) > 0 || e != c.want {
			t.Errorf("Encode(%.40v) = %x, %d, want none and %d", c.l, b, int(e), int(c.want))
		}
	}
}

func TestDecode(t *testing.T) { // P7.3
	if l, e := policy.Decode([]byte("\x02\x04name\x01\x04tags\x02")); !slices.Equal(l, groups("name", 1, "tags", 2)) || e != api.OK {
		t.Errorf("Decode = %v, %d", l, int(e))
	}
	for _, l := range some() {
		if got, e := policy.Decode(bytesOf(l)); !slices.Equal(got, l) || e != api.OK {
			t.Errorf("Decode of %v = %v, %d", l, got, int(e))
		}
	}
}

func wantNoSchema(t *testing.T, b []byte) {
	t.Helper()
	if l, e := policy.Decode(b); len(l) > 0 || e != api.ErrForm {
		t.Errorf("Decode(%.60x) = %v, %d, want none", b, l, int(e))
	}
}

func TestDecodeErrors(t *testing.T) { // P7.3
	wantNoSchema(t, nil)
	wantNoSchema(t, []byte{})
	for _, l := range some() {
		b := bytesOf(l)
		for have := range len(b) { // the missing bytes stand behind the list's length
			wantNoSchema(t, b[:have])
		}
		for _, behind := range []string{"\x00", "\x01", "\xff", "\x01b\x01"} {
			wantNoSchema(t, append(slices.Clone(b), behind...))
		}
		for count := range 64 {
			if count != len(l) {
				wantNoSchema(t, append(probe.Laid(count), b[1:]...))
			}
		}
	}
	for _, c := range none {
		if !slices.ContainsFunc(c.l, func(g api.Group) bool { return g.Policy < 0 }) { // no bytes tell of those
			wantNoSchema(t, bytesOf(c.l))
		}
	}
	for _, count := range []int{5, 6, 63, 64, 16384, 1 << 30, 1 << 40, api.MaxNum} {
		wantNoSchema(t, append(probe.Laid(count), "\x01a\x01\x01b\x01\x01c\x01\x01d\x01\x01e\x01"...))
		wantNoSchema(t, probe.Laid(count))
	}
	for _, p := range []int{0, 3, 4, 63, 64, 257, 1 << 32, api.MaxNum} {
		wantNoSchema(t, append([]byte("\x01\x01a"), probe.Laid(p)...))
	}
	for _, size := range []int{13, 63, 64, 16384, 1 << 30, api.MaxNum} { // a name that is too long, there or not
		wantNoSchema(t, append([]byte("\x01"), probe.Laid(size)...))
		wantNoSchema(t, slices.Concat([]byte("\x01"), probe.Laid(size), bytes.Repeat([]byte("a"), min(size, 20000)), []byte("\x01")))
	}
	for _, s := range []string{"\x00", "\x40\x01\x01a\x01", "\x01\x40\x01a\x01", "\x01\x01a\x40\x01", "\x80\x00\x00\x01\x01a\x01", "\x01\x01a\xc0\x00\x00\x00\x00\x00\x00\x01"} { // numbers in more bytes than they need
		wantNoSchema(t, []byte(s))
	}
	many := append(probe.Laid(70000), bytes.Repeat([]byte("\x01a\x01"), 70000)...)
	wantNoSchema(t, many)
}

func TestPrint(t *testing.T) { // P7.4
	if s, e := policy.Print(groups("name", 1, "tags", 2)); s != "name=last,tags=delete" || e != api.OK {
		t.Errorf("Print = %q, %d", s, int(e))
	}
	for _, l := range some() {
		if s, e := policy.Print(l); s != textOf(l) || e != api.OK {
			t.Errorf("Print(%v) = %q, %d", l, s, int(e))
		}
	}
	for _, c := range none {
		if s, e := policy.Print(c.l); s != "" || e != c.want {
			t.Errorf("Print(%.40v) = %q, %d, want nothing and %d", c.l, s, int(e), int(c.want))
		}
	}
}

func TestParse(t *testing.T) { // P7.4
	if l, e := policy.Parse("name=last,tags=delete"); !slices.Equal(l, groups("name", 1, "tags", 2)) || e != api.OK {
		t.Errorf("Parse = %v, %d", l, int(e))
	}
	if l, e := policy.Parse("last=delete,delete=last"); !slices.Equal(l, groups("last", 2, "delete", 1)) || e != api.OK {
		t.Errorf("Parse = %v, %d", l, int(e))
	}
	for _, l := range some() {
		if got, e := policy.Parse(textOf(l)); !slices.Equal(got, l) || e != api.OK {
			t.Errorf("Parse(%q) = %v, %d", textOf(l), got, int(e))
		}
	}
}

func wantNoText(t *testing.T, s string) {
	t.Helper()
	if l, e := policy.Parse(s); len(l) > 0 || e != api.ErrForm {
		t.Errorf("Parse(%.60q) = %v, %d, want none", s, l, int(e))
	}
}

func TestParseErrors(t *testing.T) { // P7.4
	for _, s := range []string{
		"", ",", "=", "=,", ",=", "a", "a=", "last", "=last", "a=last,", ",a=last", "a=last,,b=last", "a==last", "a=last=", "a=la=st",
		"a=last,b", "a=last,b=", "a=last,=last", "a,b=last", "a=,b=last", "a=last b=last", "a=last;b=last", "a:last",
		"a=none", "a=las", "a=lasts", "a=deletes", "a=delet", "a=lastdelete", "a=last=delete", "a=a", "a=1", "a=2", "a=", "a=Last", "a=LAST", "a=Delete",
		"A=last", "aB=last", "a1=last", "1=last", "a-b=last", " a=last", "a=last ", "a =last", "a= last", "a=last, b=last", "a=last\n", "\na=last", "a=last\x00", "\x00a=last", "\ta=last",
		"\xff=last", "a\xff=last", "a=last\xff", "a=last\xc3", "a=last,\xe2\x82", "a=\xfflast", "é=last", "a=lasté", "š=last", "a=lasţ", "ａ=last", "a＝last", "a=last，b=last", "\ufeffa=last", "\ufffda=last",
		"a=last,a=last", "a=last,a=delete", "a=last,b=last,a=last", "a=last,b=last,c=last,b=delete",
		over + "=last", "a=last," + over + "=delete",
		"a=last,b=last,c=last,d=last,e=last", "a=last,b=last,c=last,d=last,", "a=last,b=last,c=last,d=last,e", "a=last,b=last,c=last,d=last=", "a=last,b=last,c=last,d=last,e=last,f=last,g=last",
	} {
		wantNoText(t, s)
	}
	for _, part := range []string{"a", "=", ",", "a=last,", "last", "\xff", "é", " ", "a=", "=last,", "a=last"} { // very long texts
		s := strings.Repeat(part, 1<<20)
		wantNoText(t, s)
		wantNoText(t, "a=last,"+s)
		wantNoText(t, "a=last,b=delete,"+s+"=last")
		wantNoText(t, s+"=last")
		wantNoText(t, "a="+s)
		wantNoText(t, "a=last"+s)
	}
}

// rightText is what a schema's text is made like; it does not ask whether its names are unlike.
var rightText = regexp.MustCompile(`\A[a-z]{1,12}=(last|delete)(,[a-z]{1,12}=(last|delete)){0,3}\z`)

// isText tells in another way than the program does whether a text is a schema's.
func isText(s string) bool {
	met := map[string]bool{}
	for _, part := range strings.Split(s, ",") {
		name, _, _ := strings.Cut(part, "=")
		if met[name] {
			return false
		}
		met[name] = true
	}
	return rightText.MatchString(s)
}

// isBytes tells in another way than the program does whether bytes are a schema's: all numbers of these have one byte.
func isBytes(b []byte) bool {
	var l []api.Group
	if len(b) == 0 {
		return false
	}
	count, rest := int(b[0]), b[1:]
	for len(rest) > 0 {
		size := int(rest[0])
		if size+2 > len(rest) {
			return false
		}
		l = append(l, api.Group{Name: string(rest[1 : 1+size]), Policy: int(rest[1+size])})
		rest = rest[2+size:]
	}
	return len(l) == count && isSchema(l)
}

// changed tells bytes with one of them changed, left out, or put in, at each place.
func changed(b []byte, with []byte) [][]byte {
	var out [][]byte
	for at := range len(b) + 1 {
		if at < len(b) {
			out = append(out, slices.Delete(slices.Clone(b), at, at+1))
		}
		for _, c := range with {
			out = append(out, slices.Insert(slices.Clone(b), at, c))
			if at < len(b) {
				out = append(out, slices.Concat(b[:at], []byte{c}, b[at+1:]))
			}
		}
	}
	return out
}

func TestBytesBack(t *testing.T) { // P7.5
	with := []byte{0, 1, 2, 3, 4, 5, 6, 12, 13, '`', 'a', 'b', 'z', '{', 'A', 0x40, 0x41, 0x80, 0xc0, 0xe1, 0xff}
	taken := 0
	for _, l := range some()[:60] {
		b, e := policy.Encode(l)
		if got, e2 := policy.Decode(b); !slices.Equal(got, l) || e != api.OK || e2 != api.OK {
			t.Errorf("%v is encoded as %x, and decoded as %v", l, b, got)
		}
		for _, b := range changed(b, with) {
			if !isBytes(b) {
				wantNoSchema(t, b)
				continue
			}
			taken++
			got, e := policy.Decode(b)
			if again, e2 := policy.Encode(got); e != api.OK || e2 != api.OK || !bytes.Equal(again, b) {
				t.Errorf("%x is decoded as %v, and encoded as %x", b, got, again)
			}
		}
	}
	if taken < 1000 {
		t.Errorf("only %d of the changed bytes are a schema's", taken)
	}
}

func TestTextsBack(t *testing.T) { // P7.5
	with := []byte("abltz`{=,A0 \x00\xff\xe1")
	taken := 0
	for _, l := range some()[:60] {
		s, e := policy.Print(l)
		if got, e2 := policy.Parse(s); !slices.Equal(got, l) || e != api.OK || e2 != api.OK {
			t.Errorf("%v is printed as %q, and parsed as %v", l, s, got)
		}
		for _, b := range changed([]byte(s), with) {
			s := string(b)
			if !isText(s) {
				wantNoText(t, s)
				continue
			}
			taken++
			got, e := policy.Parse(s)
			if again, e2 := policy.Print(got); e != api.OK || e2 != api.OK || again != s {
				t.Errorf("%q is parsed as %v, and printed as %q", s, got, again)
			}
		}
	}
	if taken < 1000 {
		t.Errorf("only %d of the changed texts are a schema's", taken)
	}
}

func TestShortTexts(t *testing.T) { // P7.5: all texts of a few parts
	parts := []string{"a", "b", "=", ",", "last", "delete", "A", "\xff"}
	texts := []string{""}
	for range 5 {
		for _, s := range texts {
			for _, part := range parts {
				texts = append(texts, s+part)
			}
		}
		slices.Sort(texts)
		texts = slices.Compact(texts)
	}
	for _, s := range texts {
		if l, e := policy.Parse(s); (e == api.OK) != isText(s) || e == api.OK && textOf(l) != s {
			t.Errorf("Parse(%q) = %v, %d", s, l, int(e))
		}
	}
}

func TestHandedInStays(t *testing.T) { // rules 4 and 8
	lists := some()[:40]
	for _, c := range none {
		lists = append(lists, c.l)
	}
	for _, spare := range groups("more", 1, "A", 3) {
		for _, l := range lists {
			part, whole := probe.Roomy(l, spare)
			before := slices.Clone(whole)
			wantGood(t, part, policy.Good(slices.Clip(slices.Clone(l)))) // what stands behind the length plays no part
			policy.Find(part, "more")
			policy.Of(part, len(l))
			policy.Encode(part)
			policy.Print(part)
			if !slices.Equal(whole, before) {
				t.Errorf("the memory of %.40v was changed", l)
			}
		}
	}
	wantFind(t, groups("a", 1, "more", 1)[:1], "more", 0, api.ErrGroup)
	wantOf(t, groups("a", 1, "more", 1)[:1], 1, 0, api.ErrGroup)
	for _, s := range []string{"", "\x01\x01a\x01", "\x01\x01a", "\x02\x01a\x01", "\x02\x01a\x01\x01b\x02", "\x05"} {
		for _, spare := range []byte{0, 1, 'a'} {
			b, room := probe.Roomy([]byte(s), spare)
			before := slices.Clone(room)
			want, wantE := policy.Decode([]byte(s))
			if l, e := policy.Decode(b); !slices.Equal(l, want) || e != wantE || !bytes.Equal(room, before) {
				t.Errorf("Decode(%x) = %v, %d, its memory %x", s, l, int(e), room)
			}
		}
	}
}

func TestHandedOutIsNew(t *testing.T) { // rule 4
	for _, l := range some()[:40] {
		b1, _ := policy.Encode(l)
		b2, _ := policy.Encode(l)
		in := bytesOf(l)
		l1, _ := policy.Decode(in)
		l2, _ := policy.Decode(in)
		l3, _ := policy.Parse(textOf(l))
		l4, _ := policy.Parse(textOf(l))
		for i := range in { // nothing that was handed out hangs on what was handed in
			in[i] = 0xff
		}
		if !probe.Apart(b1, b2) || !probe.Apart(l1, l2, l3, l4) || !slices.Equal(l1, l) || !slices.Equal(l3, l) {
			t.Errorf("lists handed out share memory, of %v", l)
		}
	}
}
