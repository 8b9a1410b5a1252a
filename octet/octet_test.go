package octet_test

import (
	"bytes"
	"math"
	"strconv"
	"strings"
	"testing"

	"sheerleg/octet"
)

// badWidths are those that no number has.
func badWidths() []int {
	return []int{math.MinInt, math.MinInt / 8, -256, -8, -1, 0, 9, 10, 16, 64, 256, 257, 1 << 32, 1<<32 + 1, 1 << 61, math.MaxInt}
}

func edges() []int64 {
	return []int64{math.MinInt64, math.MinInt64 + 1, -1 << 40, -1<<31 - 1, -65537, -32769, -32768, -257, -129, -128, -2, -1, 0, 1, 2, 127, 128, 129, 255, 256, 258, 32767, 32768, 65535, 65536, 1<<31 - 1, 1 << 31, 1<<32 - 1, 1 << 40, 1<<56 - 1, 1 << 62, math.MaxInt64, 0x0102030405060708}
}

// low is the lowest 8 times w bits of n, without and with a sign.
func low(n int64, w int) (int64, int64) {
	if w == 8 {
		return n, n
	}
	plain := n & (1<<(8*w) - 1)
	if plain >= 1<<(8*w-1) {
		return plain, plain - 1<<(8*w)
	}
	return plain, plain
}

func letters(n int) string {
	b := make([]byte, n)
	for i := range b {
		b[i] = byte(i*7 + i/256 + 1)
	}
	return string(b)
}

// state is what a reader tells of itself.
type state struct {
	at, left int
	bad      bool
}

func check(t *testing.T, what string, r *octet.Reader, want state) {
	t.Helper()
	if got := (state{r.At(), r.Left(), r.Bad()}); got != want {
		t.Errorf("%s: at, left, bad are %v; want %v", what, got, want)
	}
}

// P2.1, numbers.
func TestPut(t *testing.T) {
	for _, x := range []struct {
		b    string
		n    int64
		w    int
		want string
	}{
		{"", 258, 3, "\x00\x01\x02"},
		{"", 7, 1, "\x07"},
		{"\x09", 7, 1, "\x09\x07"},
		{"\x09\x08", 258, 2, "\x09\x08\x01\x02"},
		{"", 0x0102030405060708, 8, "\x01\x02\x03\x04\x05\x06\x07\x08"},
		{"", 0x0102030405060708, 7, "\x02\x03\x04\x05\x06\x07\x08"},
		{"", 0x0102030405060708, 1, "\x08"},
		{"", 256, 1, "\x00"},
		{"", 65537, 2, "\x00\x01"},
		{"", -1, 1, "\xff"},
		{"", -1, 8, "\xff\xff\xff\xff\xff\xff\xff\xff"},
		{"", -2, 3, "\xff\xff\xfe"},
		{"", math.MinInt64, 8, "\x80\x00\x00\x00\x00\x00\x00\x00"},
		{"", math.MinInt64, 7, "\x00\x00\x00\x00\x00\x00\x00"},
		{"", math.MaxInt64, 8, "\x7f\xff\xff\xff\xff\xff\xff\xff"},
		{"", 0, 4, "\x00\x00\x00\x00"},
	} {
		if got := string(octet.Put([]byte(x.b), x.n, x.w)); got != x.want {
			t.Errorf("Put(%q, %d, %d) = %q; want %q", x.b, x.n, x.w, got, x.want)
		}
	}
	if got := octet.Put(nil, 5, 2); string(got) != "\x00\x05" {
		t.Errorf("Put(nil, 5, 2) = %q", got)
	}
}

// P2.1, of another width: b alone.
func TestPutOtherWidth(t *testing.T) {
	for _, w := range badWidths() {
		for _, b := range []string{"", "\x09", "abc"} {
			if got := string(octet.Put([]byte(b), -1, w)); got != b {
				t.Errorf("Put(%q, -1, %d) = %q", b, w, got)
			}
		}
		if got := octet.Put(nil, 5, w); len(got) != 0 {
			t.Errorf("Put(nil, 5, %d) = %q", w, got)
		}
	}
}

// P2.1, texts.
func TestTextPut(t *testing.T) {
	for _, x := range []struct{ b, s, want string }{
		{"", "", "\x00"},
		{"\x09", "", "\x09\x00"},
		{"", "ab", "\x02ab"},
		{"xy", "ab", "xy\x02ab"},
		{"", "\x00\xff\n", "\x03\x00\xff\n"},
		{"", "\u00e4", "\x02\xc3\xa4"}, // by bytes, not by letters
	} {
		if got := string(octet.Text([]byte(x.b), x.s)); got != x.want {
			t.Errorf("Text(%q, %q) = %q; want %q", x.b, x.s, got, x.want)
		}
	}
	for _, n := range []int{1, 127, 128, 253, 254, 255, 256, 257, 300, 511, 512, 513, 70000} {
		s, has := letters(n), min(n, 255)
		want := "b" + string([]byte{byte(has)}) + s[:has]
		if got := string(octet.Text([]byte("b"), s)); got != want {
			t.Errorf("Text of %d bytes: %q", n, got)
		}
	}
}

// P2.1 and the rules: no list handed in is changed, none answered shares memory with it.
func TestPutShares(t *testing.T) {
	calls := map[string]func(b []byte) []byte{
		"Put":        func(b []byte) []byte { return octet.Put(b, -1, 4) },
		"Put of 8":   func(b []byte) []byte { return octet.Put(b, -1, 8) },
		"Put of 0":   func(b []byte) []byte { return octet.Put(b, -1, 0) },
		"Put of 9":   func(b []byte) []byte { return octet.Put(b, -1, 9) },
		"Text":       func(b []byte) []byte { return octet.Text(b, "abc") },
		"Text of ''": func(b []byte) []byte { return octet.Text(b, "") },
		"Text long":  func(b []byte) []byte { return octet.Text(b, letters(300)) },
	}
	for what, f := range calls {
		for _, room := range []int{0, 1, 400} {
			all := bytes.Repeat([]byte{7}, 3+room)
			b := all[:3]
			first, second := f(b), f(b)
			want := string(second)
			first = first[:cap(first)]
			for i := range first {
				first[i] = 1
			}
			if string(second) != want || string(f(b)) != want {
				t.Errorf("%s: an answer shares memory with another", what)
			}
			if strings.Trim(string(all), "\x07") != "" {
				t.Errorf("%s, room %d: what was handed in is %q", what, room, all)
			}
			all[0] = 8
			if string(second) != want {
				t.Errorf("%s: what was handed in is kept", what)
			}
		}
	}
}

// P2.2, numbers from 0 on, and with a sign, of each width.
func TestNumbers(t *testing.T) {
	for w := 1; w <= 8; w++ {
		for _, n := range edges() {
			b := octet.Put(octet.Put([]byte{255}, n, w), -1, 1)
			plain, signed := low(n, w)
			r := octet.New(b)
			r.Num(1)
			if got := r.Num(w); got != plain {
				t.Errorf("Num(%d) of %q = %d; want %d", w, b, got, plain)
			}
			check(t, "Num", r, state{1 + w, 1, false})
			r = octet.New(b)
			r.Num(1)
			if got := r.Signed(w); got != signed {
				t.Errorf("Signed(%d) of %q = %d; want %d", w, b, got, signed)
			}
			check(t, "Signed", r, state{1 + w, 1, false})
		}
	}
}

// P2.2, numbers written out.
func TestNumbersNamed(t *testing.T) {
	for _, x := range []struct {
		b             string
		w             int
		plain, signed int64
	}{
		{"\x00\x01\x02", 3, 258, 258},
		{"\xff", 1, 255, -1},
		{"\x80", 1, 128, -128},
		{"\x7f", 1, 127, 127},
		{"\x00", 1, 0, 0},
		{"\x00\xff", 2, 255, 255}, // the sign is the first byte's
		{"\x80\x00", 2, 32768, -32768},
		{"\xff\xfe", 2, 65534, -2},
		{"\xff\xff\xff\xff\xff\xff\xff", 7, 1<<56 - 1, -1},
		{"\xff\xff\xff\xff\xff\xff\xff\xff", 8, -1, -1},
		{"\x80\x00\x00\x00\x00\x00\x00\x00", 8, math.MinInt64, math.MinInt64},
		{"\x7f\xff\xff\xff\xff\xff\xff\xff", 8, math.MaxInt64, math.MaxInt64},
	} {
		r := octet.New([]byte(x.b))
		if got := r.Num(x.w); got != x.plain || r.Bad() || r.Left() != 0 {
			t.Errorf("Num(%d) of %q = %d; want %d", x.w, x.b, got, x.plain)
		}
		r = octet.New([]byte(x.b))
		if got := r.Signed(x.w); got != x.signed || r.Bad() || r.Left() != 0 {
			t.Errorf("Signed(%d) of %q = %d; want %d", x.w, x.b, got, x.signed)
		}
	}
}

// P2.2, texts that may be had.
func TestTextRead(t *testing.T) {
	for _, n := range []int{0, 1, 2, 127, 128, 254, 255} {
		s := letters(n)
		for _, most := range []int{n, n + 1, 255, 256, 1 << 32, math.MaxInt} {
			r := octet.New(octet.Put(octet.Text([]byte{9}, s), 5, 1))
			r.Num(1)
			if got := r.Text(most); got != s {
				t.Errorf("Text(%d) of %d bytes: %q", most, n, got)
			}
			check(t, "Text", r, state{2 + n, 1, false})
			if r.Num(1) != 5 || r.Left() != 0 || r.Bad() {
				t.Errorf("Text(%d) of %d bytes: what stands behind it is lost", most, n)
			}
		}
	}
}

// refusals are calls that a reader of 3 bytes, of which the first is 2, refuses: told by what they answered.
func refusals() map[string]func(r *octet.Reader) bool {
	l := map[string]func(r *octet.Reader) bool{
		"Num(4)":     func(r *octet.Reader) bool { return r.Num(4) == 0 },
		"Num(8)":     func(r *octet.Reader) bool { return r.Num(8) == 0 },
		"Signed(4)":  func(r *octet.Reader) bool { return r.Signed(4) == 0 },
		"Signed(8)":  func(r *octet.Reader) bool { return r.Signed(8) == 0 },
		"Text(1)":    func(r *octet.Reader) bool { return r.Text(1) == "" },
		"Text(0)":    func(r *octet.Reader) bool { return r.Text(0) == "" },
		"Text(-1)":   func(r *octet.Reader) bool { return r.Text(-1) == "" },
		"Text(-254)": func(r *octet.Reader) bool { return r.Text(-254) == "" },
		"Text least": func(r *octet.Reader) bool { return r.Text(math.MinInt) == "" },
	}
	for _, w := range badWidths() {
		l["Num("+strconv.Itoa(w)+")"] = func(r *octet.Reader) bool { return r.Num(w) == 0 }
		l["Signed("+strconv.Itoa(w)+")"] = func(r *octet.Reader) bool { return r.Signed(w) == 0 }
	}
	return l
}

// later are calls of a reader that is bad: each takes nothing, and answers nothing.
func later(t *testing.T, what string, r *octet.Reader) {
	t.Helper()
	before := state{r.At(), r.Left(), true}
	for w := 1; w <= 8; w++ {
		if r.Num(w) != 0 || r.Signed(w) != 0 {
			t.Errorf("%s: a number of %d bytes of a bad reader", what, w)
		}
	}
	for _, most := range []int{-1, 0, 1, 2, 255, math.MaxInt} {
		if r.Text(most) != "" {
			t.Errorf("%s: a text of a bad reader", what)
		}
	}
	check(t, what+", later", r, before)
}

// P2.2, refusals.
func TestRefused(t *testing.T) {
	for what, f := range refusals() {
		r := octet.New([]byte{2, 'a', 'b'})
		if !f(r) {
			t.Errorf("%s answers something", what)
		}
		check(t, what, r, state{0, 3, true})
		later(t, what, r)

		r = octet.New([]byte{1, 'x', 2, 'a', 'b'})
		if r.Text(1) != "x" || !f(r) {
			t.Errorf("%s, behind a text, answers something", what)
		}
		check(t, what+", behind a text", r, state{2, 3, true})
		later(t, what+", behind a text", r)
	}
}

// P2.2, each width that may not be.
func TestRefusedWidths(t *testing.T) {
	for _, w := range badWidths() {
		for _, n := range []int{0, 1, 8, 20} {
			r := octet.New(bytes.Repeat([]byte{1}, n))
			if r.Num(w) != 0 {
				t.Errorf("Num(%d) answers something", w)
			}
			check(t, "Num", r, state{0, n, true})
			later(t, "Num", r)
			r = octet.New(bytes.Repeat([]byte{255}, n))
			if r.Signed(w) != 0 {
				t.Errorf("Signed(%d) answers something", w)
			}
			check(t, "Signed", r, state{0, n, true})
			later(t, "Signed", r)
		}
	}
}

// P2.2, numbers one byte short, and at the bytes' end.
func TestNumbersShort(t *testing.T) {
	for w := 1; w <= 8; w++ {
		for has := 0; has <= w; has++ {
			b := bytes.Repeat([]byte{255}, has)
			r, s := octet.New(b), octet.New(b)
			n, m := r.Num(w), s.Signed(w)
			if has == w {
				if n == 0 || m != -1 || r.Bad() || s.Bad() || r.Left() != 0 || r.At() != w {
					t.Errorf("all %d bytes: %d, %d", w, n, m)
				}
				continue
			}
			if n != 0 || m != 0 {
				t.Errorf("%d of %d bytes: %d, %d", has, w, n, m)
			}
			check(t, "Num, short", r, state{0, has, true})
			check(t, "Signed, short", s, state{0, has, true})
			later(t, "Num, short", r)
			later(t, "Signed, short", s)
		}
	}
}

// P2.2, texts one byte short or more, the byte ahead of them not taken.
func TestTextShort(t *testing.T) {
	for _, says := range []int{1, 2, 3, 128, 255} {
		for _, has := range []int{0, 1, says / 2, says - 1} {
			if has >= says {
				continue
			}
			r := octet.New(append([]byte{byte(says)}, letters(has)...))
			if got := r.Text(255); got != "" {
				t.Errorf("%d of %d bytes: %q", has, says, got)
			}
			check(t, "Text, short", r, state{0, 1 + has, true})
			later(t, "Text, short", r)
		}
	}
	for _, most := range []int{0, 1, 255, math.MaxInt, -1} {
		r := octet.New(nil)
		if r.Text(most) != "" {
			t.Error("a text of no bytes")
		}
		check(t, "Text of no bytes", r, state{0, 0, true})
	}
}

// P2.2, a text of more than most, though its bytes are there.
func TestTextLong(t *testing.T) {
	for _, n := range []int{1, 2, 128, 255} {
		for _, most := range []int{n - 1, 0, -1, n - 256, math.MinInt} {
			r := octet.New(octet.Text(nil, letters(n)))
			if got := r.Text(most); got != "" {
				t.Errorf("Text(%d) of %d bytes: %q", most, n, got)
			}
			check(t, "Text, long", r, state{0, 1 + n, true})
			later(t, "Text, long", r)
		}
	}
	r := octet.New([]byte{0, 0})
	if r.Text(-1) != "" {
		t.Error("an empty text is something")
	}
	check(t, "an empty text, with room for less", r, state{0, 2, true})
}

// P2.2, a new reader, of nothing and of something.
func TestNew(t *testing.T) {
	check(t, "nil", octet.New(nil), state{0, 0, false})
	check(t, "empty", octet.New([]byte{}), state{0, 0, false})
	check(t, "five", octet.New(make([]byte, 5)), state{0, 5, false})
}

// P2.2 and the rules: what is handed in is not kept, what was read is not changed, and readers don't know one another.
func TestReaderAlone(t *testing.T) {
	b := []byte{2, 'a', 'b', 1, 'c', 3}
	r, other := octet.New(b), octet.New(b)
	first := r.Text(9)
	for i := range b {
		b[i] = 200
	}
	if first != "ab" || r.Text(9) != "c" || r.Num(1) != 3 || r.Bad() {
		t.Error("what was handed in is kept")
	}
	check(t, "other", other, state{0, 6, false})
	other.Num(0)
	check(t, "other, bad", other, state{0, 6, true})
	check(t, "the first", r, state{6, 0, false})

	c := []byte{5, 6}
	octet.New(c).Num(2)
	if c[0] != 5 || c[1] != 6 {
		t.Error("what was handed in is changed")
	}
	d := make([]byte, 1, 9)
	if s := octet.New(d); s.Num(2) != 0 || !s.Bad() || s.Left() != 1 {
		t.Error("what stands behind the bytes' end is read")
	}
}

// P2.3.
func TestNobody(t *testing.T) {
	for what, r := range map[string]*octet.Reader{"nil": nil, "a literal's": {}, "new's": new(octet.Reader)} {
		check(t, what, r, state{0, 0, true})
		for _, w := range append(badWidths(), 1, 2, 3, 4, 5, 6, 7, 8) {
			if r.Num(w) != 0 || r.Signed(w) != 0 {
				t.Errorf("%s: a number of %d bytes", what, w)
			}
		}
		for _, most := range []int{math.MinInt, -1, 0, 1, 255, math.MaxInt} {
			if r.Text(most) != "" {
				t.Errorf("%s: a text", what)
			}
		}
		check(t, what+", later", r, state{0, 0, true})
	}
}

// P2.4, numbers that have room.
func TestThereAndBack(t *testing.T) {
	for w := 1; w <= 8; w++ {
		for _, n := range edges() {
			plain, signed := low(n, w)
			if r := octet.New(octet.Put(nil, n, w)); plain == n && (r.Num(w) != n || r.Bad() || r.Left() != 0) {
				t.Errorf("%d of %d bytes is another number", n, w)
			}
			if r := octet.New(octet.Put(nil, n, w)); signed == n && (r.Signed(w) != n || r.Bad() || r.Left() != 0) {
				t.Errorf("%d of %d bytes, with a sign, is another number", n, w)
			}
		}
	}
	for n := 0; n <= 255; n++ {
		s := letters(n)
		if r := octet.New(octet.Text(nil, s)); r.Text(n) != s || r.Bad() || r.Left() != 0 {
			t.Errorf("a text of %d bytes is another", n)
		}
	}
}

// P2.4, many things in a row.
func TestThereAndBackInRow(t *testing.T) {
	var b []byte
	for w := 1; w <= 8; w++ {
		b = octet.Put(b, int64(w), w)
		b = octet.Text(b, letters(w*31))
		b = octet.Put(b, -int64(w), w)
		b = octet.Text(b, "")
	}
	r := octet.New(b)
	for w := 1; w <= 8; w++ {
		if r.Num(w) != int64(w) || r.Text(255) != letters(w*31) || r.Signed(w) != -int64(w) || r.Text(0) != "" {
			t.Errorf("round %d", w)
		}
	}
	check(t, "all", r, state{len(b), 0, false})
	if r.At() != len(b) {
		t.Error("not all was taken")
	}
	r.Num(1)
	check(t, "beyond", r, state{len(b), 0, true})
}
