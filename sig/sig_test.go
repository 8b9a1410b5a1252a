package sig_test

import (
	"math"
	"testing"

	"sheerleg/api"
	"sheerleg/sig"
)

// row is all that the document says of a class, and of the kind of its functions.
type row struct {
	class, params  int
	answers, later bool
	kind           int
	text           string
}

func rows() []row {
	return []row{
		{0, 0, false, true, 1, "f0"},
		{1, 0, true, false, 2, "f0r"},
		{2, 1, false, true, 3, "f1"},
		{3, 1, true, false, 4, "f1r"},
		{4, 2, false, false, 5, "f2"},
		{5, 2, true, false, 6, "f2r"},
		{6, 3, false, false, 7, "f3"},
		{7, 3, true, false, 8, "f3r"},
	}
}

// far are numbers beyond all classes, kinds and parameters; some have lowest bits as one of them.
func far() []int {
	return []int{math.MinInt, math.MinInt + 1, math.MinInt + 2, math.MinInt + 8, -1 << 32, -1<<32 + 1, -65536, -256, -255, -16, -9, -8, -7, -6, -5, -4, -3, -2, -1, 9, 10, 11, 12, 16, 17, 24, 64, 127, 128, 255, 256, 257, 258, 65536, 65537, 1<<31 + 1, 1 << 32, 1<<32 + 1, 1<<32 + 3, 1 << 61, 1 << 62, 1<<62 + 1, math.MaxInt - 8, math.MaxInt - 1, math.MaxInt}
}

// P5.1, classes of what they say.
func TestOf(t *testing.T) {
	for _, x := range rows() {
		if class, ok := sig.Of(x.params, x.answers); class != x.class || !ok {
			t.Errorf("Of(%d, %v) = %d, %v; want %d, true", x.params, x.answers, class, ok, x.class)
		}
	}
}

// P5.1, parameters that no class has.
func TestOfRefused(t *testing.T) {
	for _, params := range append(far(), 4, 5, 6, 7, 8) {
		for _, answers := range []bool{false, true} {
			if class, ok := sig.Of(params, answers); class != 0 || ok {
				t.Errorf("Of(%d, %v) = %d, %v; want 0, false", params, answers, class, ok)
			}
		}
	}
}

// P5.1, what classes say.
func TestClasses(t *testing.T) {
	for _, x := range rows() {
		if !sig.Is(x.class) {
			t.Errorf("Is(%d) = false", x.class)
		}
		if n := sig.Params(x.class); n != x.params {
			t.Errorf("Params(%d) = %d; want %d", x.class, n, x.params)
		}
		if ok := sig.Answers(x.class); ok != x.answers {
			t.Errorf("Answers(%d) = %v; want %v", x.class, ok, x.answers)
		}
		if ok := sig.Later(x.class); ok != x.later {
			t.Errorf("Later(%d) = %v; want %v", x.class, ok, x.later)
		}
	}
}

// P5.1, what is no class.
func TestNoClass(t *testing.T) {
	for _, class := range append(far(), api.Classes) {
		if sig.Is(class) {
			t.Errorf("Is(%d) = true", class)
		}
		if n := sig.Params(class); n != 0 {
			t.Errorf("Params(%d) = %d; want 0", class, n)
		}
		if sig.Answers(class) {
			t.Errorf("Answers(%d) = true", class)
		}
		if sig.Later(class) {
			t.Errorf("Later(%d) = true", class)
		}
	}
}

// P5.2, texts of kinds, and back.
func TestText(t *testing.T) {
	if s := sig.Text(api.Number); s != "n" {
		t.Errorf("Text(0) = %q; want n", s)
	}
	if kind, ok := sig.Parse("n"); kind != 0 || !ok {
		t.Errorf("Parse(n) = %d, %v; want 0, true", kind, ok)
	}
	for _, x := range rows() {
		if s := sig.Text(x.kind); s != x.text {
			t.Errorf("Text(%d) = %q; want %q", x.kind, s, x.text)
		}
		if kind, ok := sig.Parse(x.text); kind != x.kind || !ok {
			t.Errorf("Parse(%q) = %d, %v; want %d, true", x.text, kind, ok, x.kind)
		}
	}
}

// P5.2, what is no kind has no text.
func TestNoText(t *testing.T) {
	for _, kind := range far() {
		if s := sig.Text(kind); s != "" {
			t.Errorf("Text(%d) = %q; want nothing", kind, s)
		}
	}
}

// kinds are the texts there are.
func kinds() map[string]int {
	all := map[string]int{"n": api.Number}
	for _, x := range rows() {
		all[x.text] = x.kind
	}
	return all
}

// parse holds what s is parsed to against the texts there are.
func parse(t *testing.T, s string) {
	t.Helper()
	want, is := kinds()[s]
	if kind, ok := sig.Parse(s); kind != want || ok != is {
		t.Errorf("Parse(%q) = %d, %v; want %d, %v", s, kind, ok, want, is)
	}
}

// P5.2, texts that are none.
func TestParseRefused(t *testing.T) {
	for _, s := range []string{
		"", " ", "\n", "\x00", "f", "r", "fr", "f r", "rf", "0", "1", "3r", "8", "-1", "f4", "f4r", "f5", "f7r", "f8", "f9", "f9r",
		"N", "F0", "F0r", "f0R", "F0R", "nr", "n0", "nn", "fn", "nf0", "f0n", "f00", "f00r", "f01", "f10", "f0rr", "f0r0", "f-0", "f-1", "f+1", "f1.", "f1.0", "f 1", "f1 r", "0f", "r0f", "0r",
		" n", "n ", "n\n", "\nn", "n\x00", "\x00n", " f0", "f0 ", "f0r ", "f3\n", "f3r\n", "f3\x00", "\tf3", "number", "f0rf0r", "n f0", "f0,f1",
		"\xff", "n\xff", "f\xff", "f0\xff", "f\xb0", "f\u0660", "f\uff10", "\uff460", "\ufeffn", "f0\u0433", "\u0584", "\u00f1", "n\u0300", "\xed\xa0\x80", "\xc3",
	} {
		if kind, ok := sig.Parse(s); kind != 0 || ok {
			t.Errorf("Parse(%q) = %d, %v; want 0, false", s, kind, ok)
		}
	}
	for _, n := range []int{4, 255, 256, 257, 65536, 1 << 20} {
		long := make([]byte, n)
		for i := range long {
			long[i] = "f0r"[i%3]
		}
		parse(t, string(long))
	}
}

// P5.2, all texts of up to two bytes, and all of three that begin as functions' do.
func TestParseAll(t *testing.T) {
	parse(t, "")
	for a := 0; a < 256; a++ {
		parse(t, string([]byte{byte(a)}))
		for b := 0; b < 256; b++ {
			parse(t, string([]byte{byte(a), byte(b)}))
			parse(t, string([]byte{'f', byte(a), byte(b)}))
		}
	}
}

// P5.2, each text with a byte that is another one, one more, or one that lacks.
func TestParseNear(t *testing.T) {
	for s := range kinds() {
		for at := 0; at <= len(s); at++ {
			parse(t, s[at:])
			parse(t, s[:at])
			for c := 0; c < 256; c++ {
				parse(t, s[:at]+string([]byte{byte(c)})+s[at:])
				if at < len(s) {
					parse(t, s[:at]+string([]byte{byte(c)})+s[at+1:])
				}
			}
		}
	}
}

// P5.2, classes of kinds.
func TestClass(t *testing.T) {
	for _, x := range rows() {
		if class, ok := sig.Class(x.kind); class != x.class || !ok {
			t.Errorf("Class(%d) = %d, %v; want %d, true", x.kind, class, ok, x.class)
		}
	}
	for _, kind := range append(far(), api.Number) {
		if class, ok := sig.Class(kind); class != 0 || ok {
			t.Errorf("Class(%d) = %d, %v; want 0, false", kind, class, ok)
		}
	}
}

// P5.3, of what a class says is the class, and no two say the same.
func TestOfWhatAClassSays(t *testing.T) {
	for class := -20; class <= 20; class++ {
		got, ok := sig.Of(sig.Params(class), sig.Answers(class))
		if sig.Is(class) && (got != class || !ok) {
			t.Errorf("of what %d says is %d, %v", class, got, ok)
		}
	}
	for params := -20; params <= 20; params++ {
		for _, answers := range []bool{false, true} {
			class, ok := sig.Of(params, answers)
			if ok != (0 <= params && params <= api.MaxParams) {
				t.Errorf("Of(%d, %v) is %v", params, answers, ok)
			}
			if ok && (!sig.Is(class) || sig.Params(class) != params || sig.Answers(class) != answers) {
				t.Errorf("Of(%d, %v) = %d, which says %d, %v", params, answers, class, sig.Params(class), sig.Answers(class))
			}
		}
	}
}

// P5.3, each kind is parsed of its text, and has the class that its text tells.
func TestKindsThereAndBack(t *testing.T) {
	for kind := -20; kind <= 20; kind++ {
		s := sig.Text(kind)
		is := 0 <= kind && kind <= api.Classes
		if (s != "") != is {
			t.Errorf("Text(%d) = %q", kind, s)
		}
		if got, ok := sig.Parse(s); ok != is || ok && got != kind || !ok && got != 0 {
			t.Errorf("Parse(Text(%d)) = %d, %v", kind, got, ok)
		}
		class, ok := sig.Class(kind)
		if ok != (is && kind != api.Number) || ok && (class != kind-1 || !sig.Is(class)) {
			t.Errorf("Class(%d) = %d, %v", kind, class, ok)
		}
	}
}

// P7, of sig: each call ends, and answers alike when it is asked again.
func TestSigEnds(t *testing.T) {
	all := far()
	for n := -2; n <= 10; n++ {
		all = append(all, n)
	}
	for _, n := range all {
		for _, answers := range []bool{false, true} {
			class, ok := sig.Of(n, answers)
			if again, is := sig.Of(n, answers); again != class || is != ok || !ok && class != 0 {
				t.Errorf("Of(%d, %v)", n, answers)
			}
		}
		class, ok := sig.Class(n)
		if again, is := sig.Class(n); again != class || is != ok || !ok && class != 0 {
			t.Errorf("Class(%d)", n)
		}
		if sig.Is(n) != sig.Is(n) || sig.Params(n) != sig.Params(n) || sig.Answers(n) != sig.Answers(n) || sig.Later(n) != sig.Later(n) || sig.Text(n) != sig.Text(n) {
			t.Errorf("of %d", n)
		}
	}
}
