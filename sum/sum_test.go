package sum_test

import (
	"bytes"
	"slices"
	"strconv"
	"strings"
	"testing"

	"sheerleg/api"
	"sheerleg/octet"
	"sheerleg/sum"
)

const modulus = 65521

// oracle goes by the document's words, with numbers that are cut only in the end: b is the sum of each a there was.
func oracle(l []byte) int64 {
	a, b := uint64(1), uint64(0)
	for _, x := range l {
		a += uint64(x)
		b += a
	}
	return int64(b%modulus*65536 + a%modulus)
}

// mixed is n bytes that differ from their neighbours.
func mixed(n int) []byte {
	b := make([]byte, n)
	for i := range b {
		b[i] = byte(i*i*31 + i*7 + i/256 + 3)
	}
	return b
}

// whole is 257 bytes that bring a from 1 to just 65521, which is 0.
func whole() []byte {
	return append(bytes.Repeat([]byte{255}, 256), 240)
}

// zero is bytes whose sum is 0: bytes 0 ahead of whole make b greater by 1 each, and leave a at 1.
func zero(t *testing.T) []byte {
	t.Helper()
	behind := whole()
	ahead := modulus - oracle(behind)>>16
	b := append(make([]byte, ahead), behind...)
	if oracle(b) != 0 {
		t.Fatal("no bytes whose sum is 0")
	}
	return b
}

// samples are bytes of all sorts of lengths and sums.
func samples(t *testing.T) map[string][]byte {
	l := map[string][]byte{
		"nil":        nil,
		"none":       {},
		"one 0":      {0},
		"one 255":    {255},
		"text":       []byte("Wikipedia"),
		"its own":    {0, 0, 0, 1},
		"a is 65520": append(bytes.Repeat([]byte{255}, 256), 239),
		"a is 0":     whole(),
		"a is 1":     append(bytes.Repeat([]byte{255}, 256), 241),
		"b is 65520": make([]byte, modulus-1),
		"b is 0":     make([]byte, modulus),
		"b is 1":     make([]byte, modulus+1),
		"both are 0": zero(t),
		"over twice": bytes.Repeat([]byte{255}, 600),
		"long, 255":  bytes.Repeat([]byte{255}, 70000),
	}
	for _, n := range []int{2, 3, 4, 5, 8, 255, 256, 257, 258, 5551, 5552, 5553, 65535, 65536, 65537, 200000} {
		l["mixed "+strconv.Itoa(n)] = mixed(n)
	}
	return l
}

// P3.1, sums written out.
func TestOfNamed(t *testing.T) {
	for _, x := range []struct {
		what string
		b    []byte
		want int64
	}{
		{"nil", nil, 1},
		{"none", []byte{}, 1},
		{"0", []byte{0}, 1<<16 + 1},
		{"1", []byte{1}, 2<<16 + 2},
		{"255", []byte{255}, 256<<16 + 256}, // from 0 on, without a sign
		{"0, 0", []byte{0, 0}, 2<<16 + 1},
		{"1, 2", []byte{1, 2}, 6<<16 + 4},
		{"2, 1", []byte{2, 1}, 7<<16 + 4}, // the order tells
		{"Wikipedia", []byte("Wikipedia"), 0x11e60398},
		{"abc", []byte("abc"), 0x024d0127},
		{"a up to 65520", append(bytes.Repeat([]byte{255}, 256), 239), 2047<<16 + 65520},
		{"a just 65521", whole(), 2048 << 16},
		{"a over by 1", append(bytes.Repeat([]byte{255}, 256), 241), 2049<<16 + 1},
		{"b up to 65520", make([]byte, 65520), 65520<<16 + 1},
		{"b just 65521", make([]byte, 65521), 1},
		{"b over by 1", make([]byte, 65522), 1<<16 + 1},
		{"both just over", zero(t), 0},
	} {
		if got := sum.Of(x.b); got != x.want {
			t.Errorf("Of(%s) = %d; want %d", x.what, got, x.want)
		}
	}
}

// P3.1, sums held against the oracle's.
func TestOf(t *testing.T) {
	for what, b := range samples(t) {
		if got, want := sum.Of(b), oracle(b); got != want {
			t.Errorf("Of(%s) = %d; want %d", what, got, want)
		}
	}
	for n := 0; n <= 700; n++ {
		b := mixed(n)
		if got, want := sum.Of(b), oracle(b); got != want {
			t.Errorf("Of(%d bytes) = %d; want %d", n, got, want)
		}
	}
	for x := 0; x < 256; x++ {
		b := bytes.Repeat([]byte{byte(x)}, 1000)
		if got, want := sum.Of(b), oracle(b); got != want {
			t.Errorf("Of(bytes %d) = %d; want %d", x, got, want)
		}
	}
}

// P3.1, an adder tells the sum after each byte, and telling changes nothing.
func TestAdder(t *testing.T) {
	a := sum.New()
	if a.Sum() != 1 {
		t.Errorf("the sum of no bytes is %d", a.Sum())
	}
	b := append(whole(), mixed(700)...)
	for i, x := range b {
		a.Add(x)
		if got, want := a.Sum(), oracle(b[:i+1]); got != want || a.Sum() != want {
			t.Fatalf("the sum of %d bytes is %d; want %d", i+1, got, want)
		}
	}
}

// P3.1, bytes come behind those that are there, any many at a time.
func TestAddMany(t *testing.T) {
	a := sum.New()
	a.Add()
	a.Add(nil...)
	a.Add([]byte{}...)
	if a.Sum() != 1 {
		t.Error("adding nothing adds something")
	}
	a.Add(1, 2)
	a.Add()
	a.Add(3)
	a.Add([]byte{4, 5, 6}...)
	if got, want := a.Sum(), oracle([]byte{1, 2, 3, 4, 5, 6}); got != want {
		t.Errorf("the sum is %d; want %d", got, want)
	}
}

// P3.1, an adder whose sum is 0 is one yet, and goes on.
func TestAddBehindZero(t *testing.T) {
	b := zero(t)
	a := sum.New()
	a.Add(b...)
	if a.Sum() != 0 {
		t.Errorf("the sum is %d; want 0", a.Sum())
	}
	a.Add(7, 8)
	if got, want := a.Sum(), oracle(append(b, 7, 8)); got != want {
		t.Errorf("behind a sum of 0 it is %d; want %d", got, want)
	}
}

// P3.1 and the rules: what is handed in is neither changed nor kept, and adders don't know one another.
func TestAddersAlone(t *testing.T) {
	first, second := sum.New(), sum.New()
	b := []byte{1, 2, 3}
	first.Add(b...)
	if !slices.Equal(b, []byte{1, 2, 3}) {
		t.Errorf("what was handed in is %v", b)
	}
	b[0], b[1], b[2] = 9, 9, 9
	if got, want := first.Sum(), oracle([]byte{1, 2, 3}); got != want {
		t.Errorf("what was handed in is kept: %d; want %d", got, want)
	}
	if second.Sum() != 1 || sum.New().Sum() != 1 {
		t.Error("another adder has bytes")
	}
	second.Add(5)
	sum.Of(b)
	if first.Sum() != oracle([]byte{1, 2, 3}) || second.Sum() != oracle([]byte{5}) {
		t.Error("adders have one another's bytes")
	}
}

// P3.1, adders that are nobody's.
func TestNobody(t *testing.T) {
	for what, a := range map[string]*sum.Adder{"nil": nil, "a literal's": {}, "new's": new(sum.Adder)} {
		for _, b := range [][]byte{nil, {}, {1}, mixed(300), whole()} {
			if a.Sum() != 0 {
				t.Errorf("%s has a sum: %d", what, a.Sum())
			}
			a.Add(b...)
			a.Add()
			if a.Sum() != 0 {
				t.Errorf("%s, of %d bytes, has a sum: %d", what, len(b), a.Sum())
			}
		}
	}
}

// P3.2, sealed bytes written out.
func TestSealNamed(t *testing.T) {
	for _, x := range []struct{ b, want string }{
		{"", "\x00\x00\x00\x01"},
		{"\x00", "\x00\x00\x01\x00\x01"},
		{"\xff", "\xff\x01\x00\x01\x00"},
		{"Wikipedia", "Wikipedia\x11\xe6\x03\x98"},
		{"\x00\x00\x00\x01", "\x00\x00\x00\x01\x00\x05\x00\x02"},
	} {
		if got := string(sum.Seal([]byte(x.b))); got != x.want {
			t.Errorf("Seal(%q) = %q; want %q", x.b, got, x.want)
		}
	}
	if got := string(sum.Seal(nil)); got != "\x00\x00\x00\x01" {
		t.Errorf("Seal(nil) = %q", got)
	}
	if got := string(sum.Seal(zero(t))); !strings.HasSuffix(got, "\xff\xf0\x00\x00\x00\x00") {
		t.Errorf("a sum of 0 is sealed as %q", got[len(got)-6:])
	}
}

// P3.2, all samples.
func TestSeal(t *testing.T) {
	for what, b := range samples(t) {
		if got, want := sum.Seal(b), octet.Put(b, oracle(b), 4); !bytes.Equal(got, want) {
			t.Errorf("Seal(%s) is another", what)
		}
	}
}

// P3.2, what is too short: told ahead of the sum, be it right or wrong.
func TestOpenShort(t *testing.T) {
	for _, b := range []string{"", "\x00", "\x01", "\x00\x01", "\x00\x00\x01", "\xff\xff\xff", "abc"} {
		if got, e := sum.Open([]byte(b)); len(got) != 0 || e != api.ErrShort {
			t.Errorf("Open(%q) = %q, %v; want ErrShort", b, got, e)
		}
	}
	if got, e := sum.Open(nil); len(got) != 0 || e != api.ErrShort {
		t.Errorf("Open(nil) = %q, %v; want ErrShort", got, e)
	}
}

// P3.2, sums that are others.
func TestOpenOther(t *testing.T) {
	for _, b := range []string{
		"\x00\x00\x00\x00",     // what is nothing has the sum 1
		"\x01\x00\x00\x00",     // the lowest byte first
		"\x00\x01\x00\x00",     // a and b changed round
		"\x00\x00\xff\xf2",     // 65521 and 1: the same a, but for the modulus
		"\xff\xf1\x00\x01",     // the same b, but for the modulus
		"\x80\x00\x00\x01",     // a sign's bit
		"\x00\x00\x00\x01\x00", // the right sum, and a byte behind it
		"\x00\x00\x00\x01\x00\x00\x00\x01",
		"\xff\xff\xff\xff",
		"ab\x02\x4d\x01\x27",            // the sum of abc
		"acb\x02\x4d\x01\x27",           // the same bytes in another order
		"abc\x02\x4d\x01\x27\x00",       // one byte more
		"\x00abc\x02\x4d\x01\x27",       // one byte ahead
		"Wikipedia\x98\x03\xe6\x11",     // turned round
		"Wikipedia\x03\x98\x11\xe6",     // halves changed round
		"Wikipedia\x11\xe6\x03",         // the last byte lacks
		"Wikipedia\x00\x11\xe6\x03\x98", // one byte between
	} {
		if got, e := sum.Open([]byte(b)); got != nil || e != api.ErrSum {
			t.Errorf("Open(%q) = %q, %v; want ErrSum", b, got, e)
		}
	}
}

// P3.2 and P3.3, what was sealed is opened.
func TestOpen(t *testing.T) {
	for what, b := range samples(t) {
		if got, e := sum.Open(sum.Seal(b)); !bytes.Equal(got, b) || e != api.OK {
			t.Errorf("%s: %d bytes are opened, %v", what, len(got), e)
		}
		if got, e := sum.Open(octet.Put(b, oracle(b), 4)); !bytes.Equal(got, b) || e != api.OK {
			t.Errorf("%s, sealed by hand: %d bytes are opened, %v", what, len(got), e)
		}
		if got, e := sum.Open(sum.Seal(sum.Seal(b))); !bytes.Equal(got, sum.Seal(b)) || e != api.OK {
			t.Errorf("%s, sealed twice: %v", what, e)
		}
	}
	if got, e := sum.Open([]byte("Wikipedia\x11\xe6\x03\x98")); string(got) != "Wikipedia" || e != api.OK {
		t.Errorf("Open = %q, %v", got, e)
	}
}

// P3.2 and the rules: no list handed in is changed, or kept, and none answered shares memory with it, or with another.
func TestSealShares(t *testing.T) {
	sealed := sum.Seal([]byte("abc"))
	calls := map[string]struct {
		in string
		do func(b []byte) []byte
	}{
		"Seal":            {"abc", sum.Seal},
		"Seal of nothing": {"", sum.Seal},
		"Open":            {string(sealed), opened},
		"Open of nothing": {"\x00\x00\x00\x01", opened},
		"Open refused":    {"\x00\x00\x00\x00", opened},
		"Open short":      {"abc", opened},
	}
	for what, x := range calls {
		for _, room := range []int{0, 1, 4, 400} {
			all := append([]byte(x.in), bytes.Repeat([]byte{7}, room)...)
			before := string(all)
			b := all[:len(x.in)]
			first, second := x.do(b), x.do(b)
			want := string(second)
			first = first[:cap(first)]
			for i := range first {
				first[i] = 1
			}
			if string(second) != want || string(x.do(b)) != want {
				t.Errorf("%s: an answer shares memory with another", what)
			}
			if string(all) != before {
				t.Errorf("%s, room %d: what was handed in is %q", what, room, all)
			}
			for i := range all {
				all[i] = 9
			}
			if string(second) != want {
				t.Errorf("%s: what was handed in is kept", what)
			}
		}
	}
}

func opened(b []byte) []byte {
	got, _ := sum.Open(b)
	return got
}

// P3.3, each byte of what was sealed, be it another one, is told.
func TestOneByteOther(t *testing.T) {
	for _, b := range [][]byte{nil, {0}, {255}, {1, 2, 3}, []byte("Wikipedia"), whole(), mixed(40), make([]byte, 30), bytes.Repeat([]byte{255}, 30)} {
		sealed := sum.Seal(b)
		for at := range sealed {
			was := sealed[at]
			for other := 0; other < 256; other++ {
				if byte(other) == was {
					continue
				}
				sealed[at] = byte(other)
				if got, e := sum.Open(sealed); got != nil || e != api.ErrSum {
					t.Fatalf("%d bytes, byte %d is %d, no more %d: %q, %v; want ErrSum", len(b), at, other, was, got, e)
				}
			}
			sealed[at] = was
		}
		if _, e := sum.Open(sealed); e != api.OK {
			t.Errorf("%d bytes, as they were: %v", len(b), e)
		}
	}
}

// P3.3, one byte of many, at some places.
func TestOneByteOfMany(t *testing.T) {
	for _, b := range [][]byte{mixed(70000), zero(t), make([]byte, modulus)} {
		sealed := sum.Seal(b)
		for _, at := range []int{0, 1, 5551, 5552, len(b) / 2, len(b) - 258, len(b) - 1, len(b), len(b) + 3} {
			was := sealed[at]
			for _, other := range []byte{was + 1, was - 1, was ^ 128, ^was} {
				sealed[at] = other
				if got, e := sum.Open(sealed); got != nil || e != api.ErrSum {
					t.Errorf("%d bytes, byte %d is %d, no more %d: %v; want ErrSum", len(b), at, other, was, e)
				}
			}
			sealed[at] = was
		}
	}
}

// P3.3, in whatever pieces.
func TestPieces(t *testing.T) {
	for what, b := range samples(t) {
		want := sum.Of(b)
		for _, size := range []int{1, 2, 3, 4, 7, 255, 256, 257, 5552, 65521, 65536, 1 << 20} {
			a := sum.New()
			for piece := range slices.Chunk(b, size) {
				a.Add(piece...)
			}
			if got := a.Sum(); got != want {
				t.Errorf("%s, pieces of %d: %d; want %d", what, size, got, want)
			}
		}
	}
	b := mixed(300)
	for at := 0; at <= len(b); at++ {
		a := sum.New()
		add := a.Add
		add(b[:at]...)
		a.Sum()
		add(b[at:]...)
		if a.Sum() != sum.Of(b) {
			t.Errorf("cut at %d: %d; want %d", at, a.Sum(), sum.Of(b))
		}
	}
}

// P7, of sum: each call answers alike when it is asked again, at all bytes of up to two, and at many of more.
func TestSumEnds(t *testing.T) {
	var all [][]byte
	for x := 0; x < 256; x++ {
		for y := 0; y < 256; y++ {
			all = append(all, []byte{byte(x), byte(y)})
		}
		all = append(all, []byte{byte(x)}, bytes.Repeat([]byte{byte(x)}, 4), mixed(x))
	}
	for _, b := range all {
		if sum.Of(b) != sum.Of(b) || !bytes.Equal(sum.Seal(b), sum.Seal(b)) {
			t.Errorf("%q has several sums", b)
		}
		got, e := sum.Open(b)
		if again, f := sum.Open(b); !bytes.Equal(again, got) || f != e || e != api.OK && got != nil {
			t.Errorf("Open(%q) = %q, %v", b, got, e)
		}
	}
}
