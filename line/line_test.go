package line_test

import (
	"math"
	"slices"
	"strconv"
	"strings"
	"testing"

	"sheerleg/api"
	"sheerleg/line"
)

const (
	least = -2147483648
	most  = 2147483647
)

// form is what an operation is called, and of which operands its line has words; k is C as a class.
type form struct {
	op         int
	name, uses string
}

// forms are those of the operations that objects may have.
func forms() []form {
	return []form{
		{1, "nop", ""}, {2, "set", "AN"}, {3, "move", "AB"}, {4, "add", "ABC"}, {5, "sub", "ABC"}, {6, "mul", "ABC"}, {7, "div", "ABC"}, {8, "mod", "ABC"},
		{9, "less", "ABC"}, {10, "same", "ABC"}, {11, "jump", "N"}, {12, "zero", "AN"}, {13, "in", "A"}, {14, "out", "A"}, {15, "load", "AB"}, {16, "store", "AB"},
		{17, "func", "A"}, {18, "pick", "AB"}, {19, "call", "A"}, {20, "via", "ABk"}, {21, "defer", "A"}, {22, "panic", "A"}, {23, "recover", "AB"}, {24, "return", "A"},
	}
}

func classes() []string {
	return []string{"f0", "f0r", "f1", "f1r", "f2", "f2r", "f3", "f3r"}
}

func ofImages() []string {
	return []string{"check", "enter", "bottom", "driver"}
}

func shorts() []int64 {
	return []int64{0, 1, 2, 9, 10, 15, 16, 99, 100, 127, 128, 254, 255}
}

func longs() []int64 {
	return []int64{least, least + 1, -65536, -256, -255, -10, -9, -1, 0, 1, 9, 10, 255, 256, 65535, 65536, most - 1, most}
}

// badShort and badLong are numbers beyond the bounds of A, B and C, and of N.
func badShort() []int64 {
	return []int64{math.MinInt64, math.MinInt64 + 1, -1 << 32, -256, -255, -2, -1, 256, 257, 511, 512, 65536, 1 << 32, 1<<32 + 1, math.MaxInt64}
}

func badLong() []int64 {
	return []int64{math.MinInt64, math.MinInt64 + 1, -1 << 32, least - 2, least - 1, most + 1, most + 2, 1 << 32, 1<<32 + 1, math.MaxInt64}
}

// odd are texts of all sorts.
func odd() []string {
	return []string{
		"", " ", "  ", "\n", "\n\n", " \n ", "\r", "\r\n", "\t", "\v", "\f", "\x00", "\x1f", "\x7f", "\x80", "\xff", "\xc3", "\xc3 ", "\xe2\x80 \n", "\xa0", "\x85",
		"\u00a0", "\u0085", "\u2003", "\u2028", "\u3000", "\ufeff", "\ufffd", "\u0120", "\u010a", "\u0a20", "\U0001f600",
		"a", "a b", " a  b ", "a\nb", "\na\n\nb\n", "a \n b", "a\tb", "a\u00a0b", "a\xffb", "nop", "nop\n", "nop nop", "0", "-", "-0", "+0", "00", "7", "-7", "#", "@", "set 0 7",
		strings.Repeat(" ", 3000), strings.Repeat("\n", 3000), strings.Repeat("9", 3000), strings.Repeat("a ", 3000), strings.Repeat("a\n", 3000), "set 0 " + strings.Repeat("1", 3000),
	}
}

// all tells each text of these bytes of at most so many bytes.
func all(bytes string, longest int, tell func(s string)) {
	tell("")
	if longest == 0 {
		return
	}
	for i := range len(bytes) {
		all(bytes, longest-1, func(s string) { tell(bytes[i:i+1] + s) })
	}
}

func quoted(l []string) string {
	var b strings.Builder
	for _, s := range l {
		b.WriteString(strconv.Quote(s) + ",")
	}
	return b.String()
}

// splitOracle goes by the document's words, byte by byte.
func splitOracle(s string) []string {
	var l []string
	var now []byte
	for i := 0; i < len(s); i++ {
		if s[i] == 10 {
			l, now = append(l, string(now)), nil
		} else {
			now = append(now, s[i])
		}
	}
	if len(now) > 0 {
		l = append(l, string(now))
	}
	return l
}

func wordsOracle(s string) []string {
	var l []string
	inside := false
	for i := 0; i < len(s); i++ {
		if s[i] == 32 {
			inside = false
		} else if inside {
			l[len(l)-1] += s[i : i+1]
		} else {
			l, inside = append(l, s[i:i+1]), true
		}
	}
	return l
}

// P9.1, lines written out.
func TestSplitNamed(t *testing.T) {
	for _, x := range []struct {
		s    string
		want []string
	}{
		{"", nil},
		{"a", []string{"a"}},
		{"a\n", []string{"a"}},
		{"a\nb", []string{"a", "b"}},
		{"a\nb\n", []string{"a", "b"}},
		{"\n", []string{""}},
		{"\n\n", []string{"", ""}},
		{"\n\n\n", []string{"", "", ""}},
		{"\na", []string{"", "a"}},
		{"\n\na\n\n\nb\n\n", []string{"", "", "a", "", "", "b", ""}},
		{"a\n\n", []string{"a", ""}},
		{" ", []string{" "}},
		{" \n ", []string{" ", " "}},
		{" a  b \n\tc", []string{" a  b ", "\tc"}},
		{"a\r\nb\r\n", []string{"a\r", "b\r"}},
		{"a\rb\vc\fd\u0085e\u2028f\u2029g", []string{"a\rb\vc\fd\u0085e\u2028f\u2029g"}},
		{"\x00\n\xff\n\xc3", []string{"\x00", "\xff", "\xc3"}},
		{"a\\nb", []string{"a\\nb"}},
		{"\u010a\u0a0a\n", []string{"\u010a\u0a0a"}},
	} {
		if got := line.Split(x.s); !slices.Equal(got, x.want) {
			t.Errorf("Split(%q) = %s; want %s", x.s, quoted(got), quoted(x.want))
		}
	}
}

// P9.1, all short texts of some bytes, and odd ones.
func TestSplit(t *testing.T) {
	check := func(s string) {
		if got, want := line.Split(s), splitOracle(s); !slices.Equal(got, want) {
			t.Errorf("Split(%q) = %s; want %s", s, quoted(got), quoted(want))
		}
	}
	all("a\n \r\xff", 6, check)
	for _, s := range odd() {
		check(s)
	}
	for c := range 256 {
		check("x" + string([]byte{byte(c)}) + "y")
	}
}

// P9.1, words written out.
func TestWordsNamed(t *testing.T) {
	for _, x := range []struct {
		s    string
		want []string
	}{
		{"", nil},
		{" ", nil},
		{"     ", nil},
		{"a", []string{"a"}},
		{" a", []string{"a"}},
		{"a ", []string{"a"}},
		{"   a   ", []string{"a"}},
		{"a b", []string{"a", "b"}},
		{"a   b", []string{"a", "b"}},
		{"  a b  c   d    ", []string{"a", "b", "c", "d"}},
		{"b a b", []string{"b", "a", "b"}},
		{"set 0 -7", []string{"set", "0", "-7"}},
		{"\t", []string{"\t"}},
		{"a\tb", []string{"a\tb"}},
		{"\ta b\t", []string{"\ta", "b\t"}},
		{"a\nb c\n", []string{"a\nb", "c\n"}},
		{"a\r\v\f\x00b", []string{"a\r\v\f\x00b"}},
		{"a\u00a0b\u0085c\u2003d\u2028e\u3000f", []string{"a\u00a0b\u0085c\u2003d\u2028e\u3000f"}},
		{"\xff \xc3 \x80", []string{"\xff", "\xc3", "\x80"}},
		{"a\xffb", []string{"a\xffb"}},
		{"\u0120 \u2020", []string{"\u0120", "\u2020"}},
		{"a,b;c", []string{"a,b;c"}},
		{"\"a b\"", []string{"\"a", "b\""}},
	} {
		if got := line.Words(x.s); !slices.Equal(got, x.want) {
			t.Errorf("Words(%q) = %s; want %s", x.s, quoted(got), quoted(x.want))
		}
	}
}

// P9.1, all short texts of some bytes, and odd ones.
func TestWords(t *testing.T) {
	check := func(s string) {
		if got, want := line.Words(s), wordsOracle(s); !slices.Equal(got, want) {
			t.Errorf("Words(%q) = %s; want %s", s, quoted(got), quoted(want))
		}
	}
	all("a \n\t\xc2", 6, check)
	for _, s := range odd() {
		check(s)
	}
	for c := range 256 {
		check("x" + string([]byte{byte(c)}) + "y")
	}
}

// P9.1, words that are joined; also such as are none.
func TestJoin(t *testing.T) {
	for _, x := range []struct {
		l    []string
		want string
	}{
		{nil, ""},
		{[]string{}, ""},
		{[]string{""}, ""},
		{[]string{"a"}, "a"},
		{[]string{"a", "b"}, "a b"},
		{[]string{"set", "0", "-7"}, "set 0 -7"},
		{[]string{"", ""}, " "},
		{[]string{"", "a", ""}, " a "},
		{[]string{"a", "", "b"}, "a  b"},
		{[]string{" ", " "}, "   "},
		{[]string{"a b", "c"}, "a b c"},
		{[]string{"a\n", "\tb"}, "a\n \tb"},
		{[]string{"\xff", "\xc3", "\x00"}, "\xff \xc3 \x00"},
	} {
		before := slices.Clone(x.l)
		if got := line.Join(x.l...); got != x.want {
			t.Errorf("Join(%s) = %q; want %q", quoted(x.l), got, x.want)
		}
		if !slices.Equal(x.l, before) {
			t.Errorf("Join(%s) changes what is handed in", quoted(before))
		}
	}
	if got := line.Join("x", "y", "z"); got != "x y z" {
		t.Errorf("Join = %q", got)
	}
	if got := line.Join(); got != "" {
		t.Errorf("Join of nothing = %q", got)
	}
}

// P9.1, decimals, and their numbers, written out.
func TestDecimals(t *testing.T) {
	for n, want := range map[int64]string{
		0: "0", 1: "1", -1: "-1", 9: "9", 10: "10", -10: "-10", 100: "100", 258: "258", -258: "-258", 65535: "65535", 1000000: "1000000",
		most: "2147483647", least: "-2147483648", most + 1: "2147483648", 1<<53 + 1: "9007199254740993",
		math.MaxInt64: "9223372036854775807", math.MaxInt64 - 1: "9223372036854775806", math.MinInt64: "-9223372036854775808", math.MinInt64 + 1: "-9223372036854775807",
	} {
		if got := line.Decimal(n); got != want {
			t.Errorf("Decimal(%d) = %q; want %q", n, got, want)
		}
		if got, ok := line.Number(want); got != n || !ok {
			t.Errorf("Number(%q) = %d, %v; want %d", want, got, ok, n)
		}
	}
}

// notDecimals are texts that are no decimal of a number.
func notDecimals() []string {
	return []string{
		"", " ", "-", "+", "--", "+-", "-+", "--1", "-+1", "+0", "+1", "+7", "-0", "-00", "00", "01", "007", "-01", "-07", "000", "0000000000000000000000001",
		" 0", "0 ", " 1", "1 ", "- 1", "1 2", "1\n", "\n1", "\t1", "1\x00", "\x001", "1\r", "0x1", "0X1", "0b1", "0o7", "1_0", "1_000", "1e3", "1.0", "1.", ".1", "0.", "1,000", "1-", "0-", "1-1", "-1-", "x", "a", "1a", "a1", "ten", "nil", "inf", "nan",
		"9223372036854775808", "-9223372036854775809", "9223372036854775810", "9999999999999999999", "-9999999999999999999", "10000000000000000000", "18446744073709551615", "18446744073709551616", "18446744073709551617", "-18446744073709551616", "-18446744073709551615", "36893488147419103233", "340282366920938463463374607431768211457", strings.Repeat("9", 1000), "-" + strings.Repeat("1", 1000), strings.Repeat("0", 1000),
		"\u0661", "\u0967", "\uff11", "1\u0660", "\u22121", "\u20131", "\u00b9", "\u00bd", "\xff", "1\xff", "\xff1", "\xb1",
	}
}

// P9.1, texts that are no decimal of a number.
func TestNumberOfNone(t *testing.T) {
	for _, s := range notDecimals() {
		if n, ok := line.Number(s); n != 0 || ok {
			t.Errorf("Number(%q) = %d, %v; want 0, false", s, n, ok)
		}
	}
}

// P9.1, all short texts of some bytes.
func TestNumber(t *testing.T) {
	all("0179-+ _", 5, func(s string) {
		digits := strings.TrimPrefix(s, "-")
		is := digits != "" && strings.Trim(digits, "0123456789") == "" && digits[0] != '0' || s == "0"
		want := int64(0)
		if is {
			for i := 0; i < len(digits); i++ {
				want = want*10 + int64(digits[i]-'0')
			}
			if digits != s {
				want = -want
			}
		}
		if n, ok := line.Number(s); n != want || ok != is {
			t.Errorf("Number(%q) = %d, %v; want %d, %v", s, n, ok, want, is)
		}
	})
}

// instrs are instructions of the form, with the words of their lines.
func (f form) instrs() []api.Instr {
	var l []api.Instr
	for i, n := range longs() {
		for j := range shorts() {
			s := shorts()
			x := api.Instr{Op: f.op}
			for _, place := range f.uses {
				switch place {
				case 'A':
					x.A = int(s[j])
				case 'B':
					x.B = int(s[(i+3*j+1)%len(s)])
				case 'C':
					x.C = int(s[(5*i+j+2)%len(s)])
				case 'k':
					x.C = (i + j) % len(classes())
				case 'N':
					x.N = n
				}
			}
			l = append(l, x)
		}
	}
	return l
}

// words are those of the line of an instruction of the form.
func (f form) words(x api.Instr) []string {
	l := []string{f.name}
	for _, place := range f.uses {
		switch place {
		case 'A':
			l = append(l, strconv.Itoa(x.A))
		case 'B':
			l = append(l, strconv.Itoa(x.B))
		case 'C':
			l = append(l, strconv.Itoa(x.C))
		case 'k':
			l = append(l, classes()[x.C])
		case 'N':
			l = append(l, strconv.FormatInt(x.N, 10))
		}
	}
	return l
}

// texts holds Text(x) against a line and an error.
func texts(t *testing.T, x api.Instr, want string, wrong api.Errno) {
	t.Helper()
	if s, e := line.Text(x); s != want || e != wrong {
		t.Errorf("Text(%v) = %q, %v; want %q, %v", x, s, e, want, wrong)
	}
}

// parses holds Parse(s) against an instruction and an error.
func parses(t *testing.T, s string, want api.Instr, wrong api.Errno) {
	t.Helper()
	if x, e := line.Parse(s); x != want || e != wrong {
		t.Errorf("Parse(%q) = %v, %v; want %v, %v", s, x, e, want, wrong)
	}
}

// named are instructions with their lines, written out.
func named() map[string]api.Instr {
	return map[string]api.Instr{
		"nop":                {Op: api.OpNop},
		"set 2 258":          {Op: api.OpSet, A: 2, N: 258},
		"set 0 -2147483648":  {Op: api.OpSet, N: least},
		"set 255 2147483647": {Op: api.OpSet, A: 255, N: most},
		"move 1 2":           {Op: api.OpMove, A: 1, B: 2},
		"add 1 2 3":          {Op: api.OpAdd, A: 1, B: 2, C: 3},
		"less 0 0 0":         {Op: api.OpLess},
		"jump 7":             {Op: api.OpJump, N: 7},
		"jump -1":            {Op: api.OpJump, N: -1},
		"zero 1 0":           {Op: api.OpZero, A: 1},
		"in 3":               {Op: api.OpIn, A: 3},
		"out 255":            {Op: api.OpOut, A: 255},
		"load 4 5":           {Op: api.OpLoad, A: 4, B: 5},
		"store 4 5":          {Op: api.OpStore, A: 4, B: 5},
		"func 9":             {Op: api.OpFunc, A: 9},
		"pick 9 10":          {Op: api.OpPick, A: 9, B: 10},
		"call 11":            {Op: api.OpCall, A: 11},
		"via 3 1 f2r":        {Op: api.OpVia, A: 3, B: 1, C: 5},
		"via 0 0 f0":         {Op: api.OpVia},
		"via 255 254 f3r":    {Op: api.OpVia, A: 255, B: 254, C: 7},
		"defer 12":           {Op: api.OpDefer, A: 12},
		"panic 13":           {Op: api.OpPanic, A: 13},
		"recover 14 15":      {Op: api.OpRecover, A: 14, B: 15},
		"return 0":           {Op: api.OpReturn},
	}
}

// P9.2, lines written out, with more blanks, too.
func TestInstrNamed(t *testing.T) {
	for s, x := range named() {
		texts(t, x, s, api.OK)
		parses(t, s, x, api.OK)
		parses(t, " "+s, x, api.OK)
		parses(t, s+"   ", x, api.OK)
		parses(t, "  "+strings.ReplaceAll(s, " ", "    ")+" ", x, api.OK)
	}
}

// P9.2 and P9.3, each operation that objects may have.
func TestInstr(t *testing.T) {
	for _, f := range forms() {
		for _, x := range f.instrs() {
			words := f.words(x)
			texts(t, x, strings.Join(words, " "), api.OK)
			parses(t, strings.Join(words, " "), x, api.OK)
			parses(t, strings.Join(words, "  "), x, api.OK)
		}
	}
}

// P9.2, Text of what is no instruction of an object, the errors in their order.
func TestTextRefused(t *testing.T) {
	for _, op := range []int{math.MinInt, -1, 0, 29, 30, 255, 256, 258, 1<<32 + 2, math.MaxInt} {
		for _, x := range []api.Instr{{}, {A: 1, B: 2, C: 3, N: 4}, {A: -1}, {C: 256}, {N: most + 1}} {
			x.Op = op
			texts(t, x, "", api.ErrKind)
		}
	}
	for op := api.OpCheck; op <= api.OpDriver; op++ {
		texts(t, api.Instr{Op: op}, "", api.ErrKind)
		texts(t, api.Instr{Op: op, A: 255, B: 1, C: 2, N: least}, "", api.ErrKind)
		texts(t, api.Instr{Op: op, A: 256}, "", api.ErrRange) // instr.Check's error comes first
		texts(t, api.Instr{Op: op, N: most + 1}, "", api.ErrRange)
	}
	for _, f := range forms() {
		for _, n := range badShort() {
			texts(t, api.Instr{Op: f.op, A: int(n)}, "", api.ErrRange)
			texts(t, api.Instr{Op: f.op, B: int(n)}, "", api.ErrRange)
			texts(t, api.Instr{Op: f.op, C: int(n)}, "", api.ErrRange)
		}
		for _, n := range badLong() {
			texts(t, api.Instr{Op: f.op, N: n}, "", api.ErrRange)
			texts(t, api.Instr{Op: f.op, A: 1, B: 1, C: 1, N: n}, "", api.ErrRange)
		}
		for place, x := range map[string]api.Instr{"A": {A: 1}, "B": {B: 255}, "C": {C: 1}, "N": {N: -1}} {
			x.Op = f.op
			if !strings.Contains(strings.ReplaceAll(f.uses, "k", "C"), place) {
				texts(t, x, "", api.ErrArg)
			}
		}
	}
}

// P9.2, Text of classes that are none.
func TestTextClass(t *testing.T) {
	for c := range 256 {
		x := api.Instr{Op: api.OpVia, A: 3, B: 1, C: c}
		if c < 8 {
			texts(t, x, "via 3 1 "+classes()[c], api.OK)
			continue
		}
		texts(t, x, "", api.ErrRange)
		x.N = 1 // should be 0: instr.Check's error comes first
		texts(t, x, "", api.ErrArg)
	}
	for _, c := range []int{-1, 256, 257, math.MinInt, math.MaxInt} {
		texts(t, api.Instr{Op: api.OpVia, C: c}, "", api.ErrRange)
	}
}

// P9.2, Parse of what has no word, or begins with the name of no operation that objects may have.
func TestParseName(t *testing.T) {
	names := []string{"Nop", "NOP", "nope", "no", "n", "nop\n", "\nnop", "nop\r", "\tnop", "nop\t0", "nop\x00", "\xffnop", "#nop", "@nop", "nop,", "0", "1", "2", "24", "-1", "", "f0", "n", "word", "line", "ret", "returns", "return\n", "set0", "\u00a0", "sub\u00a0", "\u017fub"}
	for _, s := range append(names, ofImages()...) {
		for _, rest := range []string{"", " ", " 0", " 0 0", " 0 0 0", " 0 0 0 0", " 0 0 f0"} {
			if s+rest != "" {
				parses(t, s+rest, api.Instr{}, api.ErrForm)
			}
		}
	}
	for _, s := range []string{"", " ", "     ", "\n", "\t", " \n "} {
		parses(t, s, api.Instr{}, api.ErrForm)
	}
	parses(t, "0 set", api.Instr{}, api.ErrForm)
	parses(t, "no p", api.Instr{}, api.ErrForm)
}

// P9.2, a word too few, or too many.
func TestParseCount(t *testing.T) {
	for _, f := range forms() {
		for _, x := range f.instrs()[:20] {
			words := f.words(x)
			for has := 1; has < len(words); has++ {
				parses(t, strings.Join(words[:has], " "), api.Instr{}, api.ErrForm)
			}
			for _, more := range []string{" 0", " 1", " -1", " f0", " x", " @a", " #", " 0 0", " 0 0 0", " nop", " 300", " \t", " \n"} {
				parses(t, strings.Join(words, " ")+more, api.Instr{}, api.ErrForm)
			}
		}
	}
}

// P9.2, words that are no decimals, and classes that are none, each alone, and beside a number beyond its bounds.
func TestParseWords(t *testing.T) {
	for _, f := range forms() {
		words := f.words(api.Instr{Op: f.op, A: 3, B: 2, C: 1, N: -4})
		for i, place := range f.uses {
			bad := append(notDecimals(), classes()...)
			if place == 'k' {
				bad = []string{"n", "", "f", "r", "0", "1", "5", "7", "8", "-1", "256", "f4", "f4r", "f9", "f-1", "f00", "f0rr", "f0R", "F0", "F0r", "fr", "f 0", "0f", "r0f", "f0\n", "\nf0", "\tf0", "f0\x00", "f0r\xff", "f2 r", "n0", "nr", "nil", "\uff46", "f\u0660"}
			}
			for _, s := range bad {
				if strings.Contains(s, " ") || s == "" {
					continue // no word, or several
				}
				l := slices.Clone(words)
				l[1+i] = s
				parses(t, strings.Join(l, " "), api.Instr{}, api.ErrForm)
				for j := range f.uses {
					if j != i && f.uses[j] != 'k' {
						worse := slices.Clone(l)
						worse[1+j] = "4294967296"
						parses(t, strings.Join(worse, " "), api.Instr{}, api.ErrForm)
					}
				}
			}
		}
	}
}

// P9.2, decimals of numbers beyond the bounds of their operands.
func TestParseRange(t *testing.T) {
	for _, f := range forms() {
		words := f.words(api.Instr{Op: f.op, A: 3, B: 2, C: 1, N: -4})
		for i, place := range f.uses {
			bad := badShort()
			switch place {
			case 'N':
				bad = badLong()
			case 'k':
				bad = nil
			}
			for _, n := range bad {
				l := slices.Clone(words)
				l[1+i] = strconv.FormatInt(n, 10)
				parses(t, strings.Join(l, " "), api.Instr{}, api.ErrRange)
				parses(t, strings.Join(l, " ")+" 0", api.Instr{}, api.ErrForm)
			}
		}
	}
	parses(t, "set 256 x", api.Instr{}, api.ErrForm)
	parses(t, "set x 2147483648", api.Instr{}, api.ErrForm)
	parses(t, "via 256 1 f4", api.Instr{}, api.ErrForm)
	parses(t, "via 256 1 f3", api.Instr{}, api.ErrRange)
}

// P9.3, what is parsed has a line: its words, as they were.
func TestThereAndBack(t *testing.T) {
	var parts []string
	for _, f := range forms() {
		parts = append(parts, f.name)
	}
	parts = slices.Concat(parts, ofImages(), classes(), []string{"0", "1", "2", "3", "255", "256", "-1", "01", "n", "x", "2147483647", "-2147483648", "2147483648"})
	chance := uint64(9)
	next := func(n int) int {
		chance = chance*6364136223846793005 + 1442695040888963407
		return int(chance >> 33 % uint64(n))
	}
	parsed := 0
	for range 200000 {
		var b strings.Builder
		b.WriteString(strings.Repeat(" ", next(2)) + parts[next(24)])
		for range next(4) {
			b.WriteString(strings.Repeat(" ", 1+next(2)) + parts[20+next(len(parts)-20)])
		}
		s := b.String()
		x, e := line.Parse(s)
		if e != api.OK {
			if x != (api.Instr{}) {
				t.Errorf("Parse(%q) = %v, %v", s, x, e)
			}
			continue
		}
		parsed++
		texts(t, x, strings.Join(wordsOracle(s), " "), api.OK)
	}
	if parsed < 1000 {
		t.Errorf("only %d were parsed", parsed)
	}
}

// P9.3, a number is that of its decimal, and words that are joined are parted.
func TestBack(t *testing.T) {
	chance := uint64(5)
	for range 100000 {
		chance = chance*6364136223846793005 + 1442695040888963407
		n := int64(chance) >> (chance >> 7 % 64)
		if got, ok := line.Number(line.Decimal(n)); got != n || !ok {
			t.Errorf("the number of %q is %d, %v; want %d", line.Decimal(n), got, ok, n)
		}
	}
	for _, s := range odd() {
		words := line.Words(s)
		if got := line.Words(line.Join(words...)); !slices.Equal(got, words) {
			t.Errorf("the words %s, joined, are %s", quoted(words), quoted(got))
		}
	}
}

// P7 and the rules, of lists: answers share no memory.
func TestLineShares(t *testing.T) {
	for _, ask := range []func(s string) []string{line.Split, line.Words} {
		for _, s := range []string{"a", "a b\nc d\n", " a b \n c d ", "\n\n", "  "} {
			first, second := ask(s), ask(s)
			want := slices.Clone(second)
			first = first[:cap(first)]
			for i := range first {
				first[i] = "x"
			}
			if !slices.Equal(second, want) || !slices.Equal(ask(s), want) {
				t.Errorf("%q: an answer shares memory with another", s)
			}
		}
	}
}

// P7, of line: each call ends at all arguments, and answers alike when it is asked again.
func TestLineEnds(t *testing.T) {
	texts := slices.Concat(odd(), notDecimals(), classes(), ofImages())
	for s := range named() {
		texts = append(texts, s)
	}
	for _, s := range texts {
		n, is := line.Number(s)
		m, again := line.Number(s)
		x, e := line.Parse(s)
		y, f := line.Parse(s)
		if n != m || is != again || x != y || e != f || e != api.OK && x != (api.Instr{}) {
			t.Errorf("of %q", s)
		}
		if !slices.Equal(line.Split(s), line.Split(s)) || !slices.Equal(line.Words(s), line.Words(s)) {
			t.Errorf("Split or Words of %q", s)
		}
	}
	for _, op := range []int{math.MinInt, -1, 0, 1, 2, 20, 24, 25, 28, 29, math.MaxInt} {
		for _, n := range []int{math.MinInt, -1, 0, 1, 7, 8, 255, 256, math.MaxInt} {
			x := api.Instr{Op: op, A: n, B: n, C: n, N: int64(n)}
			s, e := line.Text(x)
			r, f := line.Text(x)
			if s != r || e != f || (s == "") != (e != api.OK) {
				t.Errorf("Text(%v) = %q, %v", x, s, e)
			}
		}
	}
	for _, n := range append(badLong(), longs()...) {
		if line.Decimal(n) != line.Decimal(n) {
			t.Errorf("Decimal(%d)", n)
		}
	}
}
