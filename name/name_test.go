package name_test

import (
	"math"
	"slices"
	"strconv"
	"strings"
	"testing"

	"sheerleg/api"
	"sheerleg/name"
)

// letters are the bytes that a name has, rising; digits those that stand at no name's front.
const (
	digits  = "0123456789"
	letters = "." + digits + "_abcdefghijklmnopqrstuvwxyz"
)

// oracle goes by the document's words, byte by byte.
func oracle(s string) api.Errno {
	if len(s) > 24 {
		return api.ErrLong
	}
	for i := 0; i < len(s); i++ {
		if strings.IndexByte(letters, s[i]) < 0 {
			return api.ErrName
		}
	}
	if s == "" || strings.IndexByte(digits, s[0]) >= 0 {
		return api.ErrName
	}
	return api.OK
}

// odd are texts that are no names, of all sorts.
func odd() []string {
	return []string{
		"", " ", "\n", "\x00", "0", "9", "9a", "0_", "7.", "A", "Main", "mAin", "maiN", "a b", " a", "a ", "a\n", "\na", "a\x00", "\x00a",
		"a-b", "-a", "a+b", "a/b", "a:b", "a,b", "a;b", "a`b", "a{b", "a@b", "a[b", "a^b", "a~", "a\x7f", "a\x80", "\x80", "\xff", "a\xff", "\xc3", "a\xc3",
		"\u00e4", "a\u00e4", "\u0161", // the lowest byte of U+0161 is that of a
		"\u012e", "\u015f", "a\u0130", // .. of a point, an underline, a digit
		"\U00010061", "\u0660", "a\u0660", // a digit elsewhere
		"\uff41", "\uff10", "\ufffd", "a\ufffd", "\ufeffa", "\u2028", "\xed\xa0\x80", "\xf4\x90\x80\x80",
		strings.Repeat("\u00e4", 12), // 24 bytes
		"1" + strings.Repeat("a", 23), strings.Repeat("a", 23) + "A", strings.Repeat("0", 24),
	}
}

// even are names of all sorts, rising.
func even() []string {
	return []string{
		".", "..", ".0", "._", ".a", ".f0", "_", "_.", "_0", "__", "_a", "a", "a.", "a.b", "a0", "a00", "a1", "a10", "a2", "a_", "a_b", "aa", "aaa", strings.Repeat("a", 23), strings.Repeat("a", 24), "ab", "b", "f.f2", "main", "main.f2", "z", "z" + strings.Repeat("9", 23), "zz",
	}
}

// long are texts of more than 24 bytes.
func long() []string {
	return []string{
		strings.Repeat("a", 25), strings.Repeat("a", 26), strings.Repeat("a", 48), strings.Repeat("a", 255), strings.Repeat("a", 256), strings.Repeat("a", 257), strings.Repeat("a", 280), strings.Repeat("a", 70000),
		strings.Repeat("A", 25), strings.Repeat("0", 25), strings.Repeat(" ", 25), strings.Repeat("\xff", 25), strings.Repeat("\x00", 25),
		strings.Repeat("\u00e4", 13),       // 26 bytes, of 13 runes
		strings.Repeat("\U0001f600", 7),    // 28 bytes, of 7 runes
		"0" + strings.Repeat("a", 24),      // wrong at the front, too
		strings.Repeat("a", 24) + "\n",     // wrong at the end, too
		strings.Repeat("a", 24) + "\u00e4", // 26 bytes
	}
}

// P4.1, names and what is none.
func TestCheck(t *testing.T) {
	for _, s := range even() {
		if e := name.Check(s); e != api.OK {
			t.Errorf("Check(%q) = %v; want OK", s, e)
		}
	}
	for _, s := range odd() {
		if e := name.Check(s); e != api.ErrName {
			t.Errorf("Check(%q) = %v; want ErrName", s, e)
		}
	}
	for _, s := range long() {
		if e := name.Check(s); e != api.ErrLong {
			t.Errorf("Check(%d bytes, %q..) = %v; want ErrLong", len(s), s[:25], e)
		}
	}
}

// P4.1, each byte at each place of a name of each length, and of one too long.
func TestCheckPlaces(t *testing.T) {
	for n := 1; n <= 26; n++ {
		for at := 0; at < n; at++ {
			for c := 0; c < 256; c++ {
				b := []byte(strings.Repeat("n", n))
				b[at] = byte(c)
				if got, want := name.Check(string(b)), oracle(string(b)); got != want {
					t.Errorf("Check(%q) = %v; want %v", b, got, want)
				}
			}
		}
	}
}

// P4.1, all texts of up to two bytes, and all runes.
func TestCheckAll(t *testing.T) {
	for a := 0; a < 256; a++ {
		for b := 0; b < 256; b++ {
			s := string([]byte{byte(a), byte(b)})
			if got, want := name.Check(s), oracle(s); got != want {
				t.Errorf("Check(%q) = %v; want %v", s, got, want)
			}
		}
	}
	for c := rune(128); c <= 0x10ffff; c++ {
		if e := name.Check(string(c)); e != api.ErrName {
			t.Fatalf("Check(%q) = %v; want ErrName", c, e)
		}
		if e := name.Check("a" + string(c)); e != api.ErrName {
			t.Fatalf("Check(a%q) = %v; want ErrName", c, e)
		}
	}
}

// P4.1, lists written out.
func TestSortNamed(t *testing.T) {
	for _, x := range []struct{ l, want []string }{
		{nil, nil},
		{[]string{}, nil},
		{[]string{""}, nil},
		{[]string{"a"}, []string{"a"}},
		{[]string{"b", "a"}, []string{"a", "b"}},
		{[]string{"a", "b"}, []string{"a", "b"}},
		{[]string{"a", "a"}, []string{"a"}},
		{[]string{"b", "a", "b", "a", "b"}, []string{"a", "b"}},
		{[]string{"b", "A", "a", "A", "b"}, []string{"a", "b"}},
		{[]string{"1", "A", "", "a b"}, nil},
		{[]string{"aa", "a", "ab", "a0", "a.", "a_"}, []string{"a", "a.", "a0", "a_", "aa", "ab"}}, // the shorter first
		{[]string{"a10", "a9", "a1"}, []string{"a1", "a10", "a9"}},                                 // by bytes, not by numbers
		{[]string{"z", "_", "."}, []string{".", "_", "z"}},
		{[]string{strings.Repeat("a", 25), strings.Repeat("a", 24), strings.Repeat("a", 23)}, []string{strings.Repeat("a", 23), strings.Repeat("a", 24)}},
		{[]string{"main", "main ", "main\n", "main"}, []string{"main"}},
	} {
		if got := name.Sort(x.l); !slices.Equal(got, x.want) {
			t.Errorf("Sort(%q) = %q; want %q", x.l, got, x.want)
		}
	}
}

// P4.1, names among others, each several times, in several orders.
func TestSort(t *testing.T) {
	all := slices.Concat(even(), odd(), even(), long(), even(), odd())
	for _, step := range []int{1, 2, 7, 11, 101} {
		var l []string
		for first := range step {
			for i := first; i < len(all); i += step {
				l = append(l, all[i])
			}
		}
		if got := name.Sort(l); !slices.Equal(got, even()) {
			t.Errorf("steps of %d: %q; want %q", step, got, even())
		}
		slices.Reverse(l)
		if got := name.Sort(l); !slices.Equal(got, even()) {
			t.Errorf("steps of %d, turned round: %q; want %q", step, got, even())
		}
	}
	if got := name.Sort(slices.Concat(odd(), long())); len(got) != 0 {
		t.Errorf("of what is no name: %q", got)
	}
}

// P4.1 and P4.3, all single bytes.
func TestSortBytes(t *testing.T) {
	var l, want []string
	for c := 255; c >= 0; c-- {
		l = append(l, string([]byte{byte(c)}), "x"+string([]byte{byte(c)}))
	}
	for _, c := range letters {
		if !strings.ContainsRune(digits, c) {
			want = append(want, string(c))
		}
		if c == 'x' {
			for _, d := range letters {
				want = append(want, "x"+string(d))
			}
		}
	}
	if got := name.Sort(l); !slices.Equal(got, want) {
		t.Errorf("Sort = %q; want %q", got, want)
	}
}

// P4.1 and the rules: the list handed in is neither changed nor kept, and no answer shares memory.
func TestSortShares(t *testing.T) {
	for _, in := range [][]string{{"b", "a"}, {"a", "b"}, {"a"}, {"b", "", "a", "b"}, {"A"}, {"c", "b", "b", "a", "0"}} {
		for _, room := range []int{0, 1, 9} {
			all := append(slices.Clone(in), slices.Repeat([]string{"w"}, room)...)
			before := slices.Clone(all)
			l := all[:len(in)]
			first, second := name.Sort(l), name.Sort(l)
			want := slices.Clone(second)
			if !slices.Equal(all, before) {
				t.Errorf("%q, room %d: what was handed in is %q", in, room, all)
			}
			first = first[:cap(first)]
			for i := range first {
				first[i] = "x"
			}
			if !slices.Equal(second, want) || !slices.Equal(name.Sort(l), want) || !slices.Equal(all, before) {
				t.Errorf("%q: an answer shares memory", in)
			}
			for i := range all {
				all[i] = "y"
			}
			if !slices.Equal(second, want) {
				t.Errorf("%q: what was handed in is kept", in)
			}
		}
	}
}

// P4.1, places.
func TestFind(t *testing.T) {
	l := []string{"b", "a", "", "a", "b", "A", "a ", "\xff", "0", strings.Repeat("c", 300), "c"}
	for _, x := range []struct {
		s    string
		want int
	}{
		{"b", 0}, {"a", 1}, {"", 2}, {"A", 5}, {"a ", 6}, {"\xff", 7}, {"0", 8}, {strings.Repeat("c", 300), 9}, {"c", 10},
		{"B", -1}, {"c ", -1}, {" ", -1}, {"\xfe", -1}, {"\ufffd", -1}, {"ab", -1}, {"cc", -1}, {strings.Repeat("c", 299), -1}, {"\x00", -1},
	} {
		if got := name.Find(l, x.s); got != x.want {
			t.Errorf("Find(%q) = %d; want %d", x.s, got, x.want)
		}
	}
	for _, none := range [][]string{nil, {}} {
		for _, s := range []string{"", "a", "\xff"} {
			if got := name.Find(none, s); got != -1 {
				t.Errorf("Find(nothing, %q) = %d; want -1", s, got)
			}
		}
	}
	if got := name.Find([]string{""}, ""); got != 0 {
		t.Errorf("Find of nothing = %d; want 0", got)
	}
	if got := name.Find([]string{"z", "y", "x"}, "x"); got != 2 { // a list that doesn't rise
		t.Errorf("Find at the end = %d; want 2", got)
	}
	if got := name.Find(slices.Repeat([]string{"a"}, 1000)[:999:1000], "b"); got != -1 {
		t.Errorf("Find of what isn't there = %d; want -1", got)
	}
	m := []string{"a", "b"}[:1]
	if got := name.Find(m, "b"); got != -1 {
		t.Errorf("Find behind the end = %d; want -1", got)
	}
}

// P4.1, each of a list is found at its first place; the list stays as it is.
func TestFindAll(t *testing.T) {
	l := slices.Concat(even(), odd(), even(), odd())
	before := slices.Clone(l)
	for i, s := range l {
		if got, want := name.Find(l, s), i%(len(even())+len(odd())); got != want {
			t.Errorf("Find(%q) = %d; want %d", s, got, want)
		}
	}
	if !slices.Equal(l, before) {
		t.Error("what was handed in is changed")
	}
}

// P4.2, written out.
func TestJoinNamed(t *testing.T) {
	a := func(n int) string { return strings.Repeat("a", n) }
	for _, x := range []struct {
		file int
		s    string
		want string
	}{
		{2, "main", "main.f2"},
		{0, "main", "main.f0"},
		{10, "main", "main.f10"},
		{5, "_", "_.f5"},
		{5, ".", "..f5"},
		{5, "a.b", "a.b.f5"},
		{5, "a.f1", "a.f1.f5"},
		{0, "", ".f0"}, // a name, though nothing is none
		{-1, "main", ""},
		{-1, "", ""},
		{-2, "a", ""},
		{math.MinInt, "a", ""},
		{0, a(20), a(20) + ".f0"},
		{0, a(21), a(21) + ".f0"}, // 24 bytes
		{0, a(22), ""},            // 25 bytes
		{9, a(21), a(21) + ".f9"},
		{10, a(21), ""},
		{10, a(20), a(20) + ".f10"},
		{99, a(20), a(20) + ".f99"},
		{100, a(20), ""},
		{0, a(24), ""}, // a name that has no room for more
		{0, a(25), ""},
		{0, a(70000), ""},
		{math.MaxInt64, a(3), "aaa.f9223372036854775807"},
		{math.MaxInt64, a(4), ""},
		{1 << 32, "a", "a.f4294967296"},
		{0, "1", ""},
		{0, "0a", ""},
		{0, "A", ""},
		{0, "a b", ""},
		{0, " ", ""},
		{0, "\n", ""},
		{0, "\x00", ""},
		{0, "a-", ""},
		{0, "\u00e4", ""},
		{0, "a\xc3", ""},
		{0, "\xff", ""},
	} {
		if got := name.Join(x.file, x.s); got != x.want {
			t.Errorf("Join(%d, %q) = %q; want %q", x.file, x.s, got, x.want)
		}
	}
}

// P4.2, each text with each file: held against the joined text's own check.
func TestJoin(t *testing.T) {
	files := []int{math.MinInt, -1 << 32, -10, -1, 0, 1, 5, 9, 10, 11, 99, 100, 255, 256, 65535, 1<<31 - 1, 1 << 31, 1 << 32, math.MaxInt - 1, math.MaxInt}
	for _, s := range slices.Concat(even(), odd(), long()) {
		for _, file := range files {
			want := s + ".f" + strconv.FormatInt(int64(file), 10)
			if file < 0 || oracle(want) != api.OK {
				want = ""
			}
			if got := name.Join(file, s); got != want {
				t.Errorf("Join(%d, %q) = %q; want %q", file, s, got, want)
			}
		}
	}
}

// P4.3, what was sorted stays as it is.
func TestSortTwice(t *testing.T) {
	for _, l := range [][]string{nil, even(), odd(), long(), slices.Concat(long(), even(), odd(), even())} {
		once := name.Sort(l)
		if twice := name.Sort(once); !slices.Equal(twice, once) {
			t.Errorf("sorted twice: %q; once: %q", twice, once)
		}
		for i, s := range once {
			if name.Check(s) != api.OK || name.Find(l, s) < 0 || i > 0 && once[i-1] >= s {
				t.Errorf("%q at %d", s, i)
			}
		}
		for _, s := range l {
			if (name.Check(s) == api.OK) != (name.Find(once, s) >= 0) {
				t.Errorf("%q is left out, or put in", s)
			}
		}
	}
}

// P4.3, all orders of a list with twins and with what is no name.
func TestSortOrders(t *testing.T) {
	want := []string{".b", "_", "a", "a0"}
	orders([]string{"a0", "a", "_", "a", "", ".b", "0"}, 0, func(l []string) {
		if got := name.Sort(l); !slices.Equal(got, want) {
			t.Errorf("Sort(%q) = %q; want %q", l, got, want)
		}
	})
}

// orders tells l in each order of what stands from at on.
func orders(l []string, at int, tell func(l []string)) {
	if at == len(l) {
		tell(l)
		return
	}
	for i := at; i < len(l); i++ {
		l[at], l[i] = l[i], l[at]
		orders(l, at+1, tell)
		l[at], l[i] = l[i], l[at]
	}
}

// P7, of name: each call answers alike when it is asked again.
func TestNameEnds(t *testing.T) {
	all := slices.Concat(even(), odd(), long())
	for _, s := range all {
		if name.Check(s) != name.Check(s) || name.Find(all, s) != name.Find(all, s) || name.Find(nil, s) != -1 {
			t.Errorf("Check or Find of %q", s)
		}
		for _, file := range []int{math.MinInt, -1, 0, 1, math.MaxInt} {
			if name.Join(file, s) != name.Join(file, s) {
				t.Errorf("Join(%d, %q)", file, s)
			}
		}
		if !slices.Equal(name.Sort([]string{s, s}), name.Sort([]string{s})) {
			t.Errorf("Sort of %q", s)
		}
	}
}
