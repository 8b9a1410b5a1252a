package op_test

import (
	"math"
	"strings"
	"testing"

	"sheerleg/api"
	"sheerleg/op"
)

// row is all that the document says of an operation.
type row struct {
	op          int
	name, shape string
	own         bool
	need        int
	ends        bool
}

func rows() []row {
	return []row{
		{1, "nop", "----", true, 0, false},
		{2, "set", "w--n", true, 0, false},
		{3, "move", "wr--", true, 0, false},
		{4, "add", "wrr-", true, 0, false},
		{5, "sub", "wrr-", true, 0, false},
		{6, "mul", "wrr-", true, 0, false},
		{7, "div", "wrr-", true, 0, false},
		{8, "mod", "wrr-", true, 0, false},
		{9, "less", "wrr-", true, 0, false},
		{10, "same", "wrr-", true, 0, false},
		{11, "jump", "---t", true, 0, true},
		{12, "zero", "r--t", true, 0, false},
		{13, "in", "w---", true, 0, false},
		{14, "out", "r---", true, 0, false},
		{15, "load", "wr--", true, 3, false},
		{16, "store", "rr--", true, 3, false},
		{17, "func", "g---", true, 2, false},
		{18, "pick", "gr--", true, 4, false},
		{19, "call", "c---", true, 1, false},
		{20, "via", "cfk-", true, 0, false},
		{21, "defer", "d---", true, 5, false},
		{22, "panic", "r---", true, 0, true},
		{23, "recover", "ww--", true, 0, false},
		{24, "return", "v---", true, 0, true},
		{25, "check", "", false, 0, false},
		{26, "enter", "", false, 0, false},
		{27, "bottom", "", false, 0, false},
		{28, "driver", "", false, 0, false},
	}
}

// far are numbers of no operation; some have the lowest bits of one.
func far() []int {
	return []int{math.MinInt, math.MinInt + 1, math.MinInt + 24, -1 << 62, -1 << 32, -1<<32 + 1, -1 << 31, -65536, -65535, -256, -255, -232, -128, -28, -25, -24, -2, -1, 0, 29, 30, 31, 32, 33, 56, 64, 127, 128, 129, 255, 256, 257, 258, 280, 284, 65536, 65537, 1<<31 - 1, 1 << 31, 1<<31 + 1, 1 << 32, 1<<32 + 1, 1<<32 + 24, 1 << 61, 1 << 62, 1<<62 + 2, math.MaxInt - 1, math.MaxInt}
}

// P7.1 and P7.2, P7.3: all of each operation.
func TestRows(t *testing.T) {
	for _, x := range rows() {
		if s := op.Name(x.op); s != x.name {
			t.Errorf("Name(%d) = %q; want %q", x.op, s, x.name)
		}
		if n := op.Find(x.name); n != x.op {
			t.Errorf("Find(%q) = %d; want %d", x.name, n, x.op)
		}
		if ok := op.Own(x.op); ok != x.own {
			t.Errorf("Own(%d) = %v; want %v", x.op, ok, x.own)
		}
		if s := op.Shape(x.op); s != x.shape {
			t.Errorf("Shape(%d) = %q; want %q", x.op, s, x.shape)
		}
		if n := op.Need(x.op); n != x.need {
			t.Errorf("Need(%d) = %d; want %d", x.op, n, x.need)
		}
		if ok := op.Ends(x.op); ok != x.ends {
			t.Errorf("Ends(%d) = %v; want %v", x.op, ok, x.ends)
		}
	}
}

// P7.1, the numbers are those that package api has.
func TestNumbers(t *testing.T) {
	for name, want := range map[string]int{
		"nop": api.OpNop, "set": api.OpSet, "move": api.OpMove, "add": api.OpAdd, "sub": api.OpSub, "mul": api.OpMul, "div": api.OpDiv, "mod": api.OpMod,
		"less": api.OpLess, "same": api.OpSame, "jump": api.OpJump, "zero": api.OpZero, "in": api.OpIn, "out": api.OpOut, "load": api.OpLoad, "store": api.OpStore,
		"func": api.OpFunc, "pick": api.OpPick, "call": api.OpCall, "via": api.OpVia, "defer": api.OpDefer, "panic": api.OpPanic, "recover": api.OpRecover, "return": api.OpReturn,
		"check": api.OpCheck, "enter": api.OpEnter, "bottom": api.OpBottom, "driver": api.OpDriver,
	} {
		if n := op.Find(name); n != want {
			t.Errorf("Find(%q) = %d; want %d", name, n, want)
		}
		if s := op.Name(want); s != name {
			t.Errorf("Name(%d) = %q; want %q", want, s, name)
		}
	}
}

// nothing tells whether op is what no operation is.
func nothing(n int) bool {
	return op.Name(n) == "" && !op.Own(n) && op.Shape(n) == "" && op.Need(n) == 0 && !op.Ends(n)
}

// P7.1 and P7.2, P7.3: numbers below and above all operations.
func TestNoOperation(t *testing.T) {
	for _, n := range far() {
		if !nothing(n) {
			t.Errorf("of %d, no operation: %q, %v, %q, %d, %v", n, op.Name(n), op.Own(n), op.Shape(n), op.Need(n), op.Ends(n))
		}
	}
	for n := -70000; n <= 70000; n++ {
		if (n < 1 || n > 28) && !nothing(n) {
			t.Errorf("%d is something", n)
		}
	}
}

// find holds what is found against the names there are.
func find(t *testing.T, s string) {
	t.Helper()
	want := 0
	for _, x := range rows() {
		if x.name == s {
			want = x.op
		}
	}
	if n := op.Find(s); n != want {
		t.Errorf("Find(%q) = %d; want %d", s, n, want)
	}
}

// P7.1, names that are none.
func TestFindNone(t *testing.T) {
	for _, s := range []string{
		"", " ", "\n", "\x00", "0", "1", "2", "24", "28", "-1", "?", "-", "----", "w--n", "no", "op", "none", "ok",
		"NOP", "Nop", "nOP", "SET", "Via", "RETURN", "nop ", " nop", "nop\n", "\nnop", "nop\x00", "\x00nop", "\tnop", "nop nop", "nopnop", "nopset", "nop,set", "set 2", "set2",
		"jmp", "goto", "less than", "equal", "load8", "functions", "fun", "function", "calls", "call!", "panics", "returns", "ret", "rec", "checks", "entry", "exit", "drivers", "bottoms",
		"\xff", "nop\xff", "n\xc3\xb6p", "\ufeffnop", "no\u0440", "\uff4e\uff4f\uff50", "\xed\xa0\x80", "in\u0300", "\u0131n",
	} {
		if n := op.Find(s); n != 0 {
			t.Errorf("Find(%q) = %d; want 0", s, n)
		}
	}
	for _, n := range []int{25, 255, 256, 257, 65536, 1 << 20} {
		find(t, strings.Repeat("nop", n))
		find(t, strings.Repeat("\x00", n))
		find(t, "set"+strings.Repeat(" ", n))
	}
}

// P7.1, all texts of up to two bytes.
func TestFindShort(t *testing.T) {
	for a := range 256 {
		find(t, string([]byte{byte(a)}))
		for b := range 256 {
			find(t, string([]byte{byte(a), byte(b)}))
		}
	}
}

// P7.1, each name with a byte that is another one, one more, or some that lack.
func TestFindNear(t *testing.T) {
	for _, x := range rows() {
		s := x.name
		for at := 0; at <= len(s); at++ {
			find(t, s[at:])
			find(t, s[:at])
			for c := range 256 {
				find(t, s[:at]+string([]byte{byte(c)})+s[at:])
				if at < len(s) {
					find(t, s[:at]+string([]byte{byte(c)})+s[at+1:])
				}
			}
		}
	}
}

// P7.2, a shape has four letters, each where it may be.
func TestShapeLetters(t *testing.T) {
	places := [4]string{"-wrgcdv", "-wrf", "-rk", "-nt"}
	for n := -40; n <= 300; n++ {
		s := op.Shape(n)
		if op.Own(n) != (len(s) == len(places)) || !op.Own(n) && s != "" {
			t.Errorf("Shape(%d) = %q", n, s)
		}
		for i := range len(s) {
			if strings.IndexByte(places[i], s[i]) < 0 {
				t.Errorf("Shape(%d) = %q: the letter at %d", n, s, i)
			}
		}
	}
}

// P7.4, each operation has a name, and each name one operation.
func TestThereAndBack(t *testing.T) {
	seen := map[string]int{}
	for n := 1; n <= 28; n++ {
		s := op.Name(n)
		if s == "" {
			t.Errorf("%d has no name", n)
		}
		if other, ok := seen[s]; ok {
			t.Errorf("%q is that of %d and of %d", s, other, n)
		}
		seen[s] = n
		if got := op.Find(s); got != n {
			t.Errorf("Find(Name(%d)) = %d", n, got)
		}
	}
	for _, n := range far() {
		if got := op.Find(op.Name(n)); got != 0 {
			t.Errorf("Find(Name(%d)) = %d; want 0", n, got)
		}
	}
}

// P7, of op: each call ends, and answers alike when it is asked again.
func TestOpEnds(t *testing.T) {
	all := far()
	for n := 1; n <= 28; n++ {
		all = append(all, n)
	}
	for _, n := range all {
		if op.Name(n) != op.Name(n) || op.Own(n) != op.Own(n) || op.Shape(n) != op.Shape(n) || op.Need(n) != op.Need(n) || op.Ends(n) != op.Ends(n) {
			t.Errorf("of %d", n)
		}
		if s := op.Name(n); op.Find(s) != op.Find(s) {
			t.Errorf("of %q", s)
		}
	}
}
