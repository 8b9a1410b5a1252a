package instr_test

import (
	"bytes"
	"math"
	"strings"
	"testing"

	"sheerleg/api"
	"sheerleg/instr"
	"sheerleg/octet"
)

const (
	least = -2147483648
	most  = 2147483647
)

// uses is of which operands an operation makes use, a letter each, of A, B, C and N, with - where there is none; of images alone: all.
func uses(op int) string {
	switch op {
	case api.OpNop:
		return "----"
	case api.OpSet:
		return "A--N"
	case api.OpMove, api.OpLoad, api.OpStore, api.OpPick, api.OpRecover:
		return "AB--"
	case api.OpJump:
		return "---N"
	case api.OpZero:
		return "A--N"
	case api.OpIn, api.OpOut, api.OpFunc, api.OpCall, api.OpDefer, api.OpPanic, api.OpReturn:
		return "A---"
	case api.OpAdd, api.OpSub, api.OpMul, api.OpDiv, api.OpMod, api.OpLess, api.OpSame, api.OpVia:
		return "ABC-"
	case api.OpCheck, api.OpEnter, api.OpBottom, api.OpDriver:
		return "ABCN"
	}
	return ""
}

// noOps are numbers of no operation; some have the lowest bits of one.
func noOps() []int {
	return []int{math.MinInt, math.MinInt + 1, -1<<32 + 2, -256, -254, -231, -28, -2, -1, 0, 29, 30, 64, 127, 128, 255, 256, 257, 258, 284, 65537, 1 << 31, 1<<32 + 1, 1<<32 + 28, 1<<62 + 1, math.MaxInt}
}

// badShort and badLong are numbers beyond the bounds of A, B and C, and of N.
func badShort() []int {
	return []int{math.MinInt, math.MinInt + 1, -1 << 32, -65536, -256, -255, -128, -2, -1, 256, 257, 511, 512, 65535, 65536, 1 << 31, 1 << 32, 1<<32 + 1, 1<<62 + 1, math.MaxInt}
}

func badLong() []int64 {
	return []int64{math.MinInt64, math.MinInt64 + 1, -1<<62 + 7, -1<<40 + 1, -1<<33 + 1, -1 << 32, -1<<32 + 5, least - 2, least - 1, most + 1, most + 2, 1<<32 - 1, 1 << 32, 1<<32 + 1, 1 << 40, 1 << 62, math.MaxInt64 - 1, math.MaxInt64}
}

func shorts() []int {
	return []int{0, 1, 2, 15, 16, 127, 128, 129, 200, 254, 255}
}

func longs() []int64 {
	return []int64{least, least + 1, -65536, -65535, -32769, -32768, -256, -255, -129, -128, -2, -1, 0, 1, 2, 127, 128, 255, 256, 258, 32767, 32768, 65535, 65536, 16909060, 1 << 30, most - 1, most}
}

// used is x with 0 where its operation makes no use of an operand.
func used(x api.Instr) api.Instr {
	letters := uses(x.Op)
	if !strings.Contains(letters, "A") {
		x.A = 0
	}
	if !strings.Contains(letters, "B") {
		x.B = 0
	}
	if !strings.Contains(letters, "C") {
		x.C = 0
	}
	if !strings.Contains(letters, "N") {
		x.N = 0
	}
	return x
}

// good are instructions that may be, of each operation.
func good() []api.Instr {
	var l []api.Instr
	for op := 1; op <= 28; op++ {
		l = append(l, api.Instr{Op: op})
		for i, n := range longs() {
			s := shorts()
			l = append(l, used(api.Instr{Op: op, A: s[i%len(s)], B: s[(i*3+1)%len(s)], C: s[(i*7+2)%len(s)], N: n}))
		}
		for _, n := range shorts() {
			l = append(l, used(api.Instr{Op: op, A: n}), used(api.Instr{Op: op, B: n}), used(api.Instr{Op: op, C: n}))
		}
	}
	return l
}

// written is x's bytes, as the document has them.
func written(x api.Instr) string {
	n := uint64(x.N)
	return string([]byte{byte(x.Op), byte(x.A), byte(x.B), byte(x.C), byte(n >> 24), byte(n >> 16), byte(n >> 8), byte(n)})
}

// wants holds Check(x) against an error.
func wants(t *testing.T, x api.Instr, want api.Errno) {
	t.Helper()
	if e := instr.Check(x); e != want {
		t.Errorf("Check(%v) = %v; want %v", x, e, want)
	}
}

// state holds what a reader tells of itself.
func state(t *testing.T, what string, r *octet.Reader, at, left int, bad bool) {
	t.Helper()
	if r.At() != at || r.Left() != left || r.Bad() != bad {
		t.Errorf("%s: at, left, bad are %d, %d, %v; want %d, %d, %v", what, r.At(), r.Left(), r.Bad(), at, left, bad)
	}
}

// P8.1, what may be.
func TestCheck(t *testing.T) {
	for _, x := range good() {
		wants(t, x, api.OK)
	}
	for op := 1; op <= 28; op++ {
		wants(t, used(api.Instr{Op: op, A: 255, B: 255, C: 255, N: most}), api.OK)
		wants(t, used(api.Instr{Op: op, A: 255, B: 255, C: 255, N: least}), api.OK)
	}
}

// P8.1, what is no operation, whatever its operands are.
func TestCheckKind(t *testing.T) {
	for _, op := range noOps() {
		for _, x := range []api.Instr{{}, {A: 1}, {A: 255, B: 255, C: 255, N: most}, {A: 256}, {B: -1}, {C: math.MinInt}, {N: most + 1}, {A: math.MaxInt, B: math.MaxInt, C: math.MaxInt, N: math.MinInt64}} {
			x.Op = op
			wants(t, x, api.ErrKind)
		}
	}
}

// P8.1, a number that is beyond its bounds, also where it should be 0.
func TestCheckRange(t *testing.T) {
	for op := 1; op <= 28; op++ {
		for _, rest := range []api.Instr{{Op: op}, used(api.Instr{Op: op, A: 3, B: 4, C: 5, N: 6}), {Op: op, A: 3, B: 4, C: 5, N: 6}, {Op: op, A: 255, B: 255, C: 255, N: least}} {
			for _, n := range badShort() {
				a, b, c := rest, rest, rest
				a.A, b.B, c.C = n, n, n
				wants(t, a, api.ErrRange)
				wants(t, b, api.ErrRange)
				wants(t, c, api.ErrRange)
			}
			for _, n := range badLong() {
				x := rest
				x.N = n
				wants(t, x, api.ErrRange)
			}
		}
	}
}

// P8.1, operands that should be 0, alone and beside those that may be.
func TestCheckArg(t *testing.T) {
	for op := 1; op <= 28; op++ {
		for _, rest := range []api.Instr{{Op: op}, used(api.Instr{Op: op, A: 9, B: 8, C: 7, N: -6})} {
			for i := range 4 {
				want := api.OK
				if uses(op)[i] == '-' {
					want = api.ErrArg
				}
				for _, n := range shorts()[1:] {
					wants(t, put(rest, i, int64(n)), want)
				}
			}
			for _, n := range longs() {
				want := api.OK
				if uses(op)[3] == '-' && n != 0 {
					want = api.ErrArg
				}
				wants(t, put(rest, 3, n), want)
			}
		}
	}
}

// put is x with n at the place i, by itself.
func put(x api.Instr, i int, n int64) api.Instr {
	switch i {
	case 0:
		x.A = int(n)
	case 1:
		x.B = int(n)
	case 2:
		x.C = int(n)
	case 3:
		x.N = n
	}
	return x
}

// P8.1, instructions of images alone: no operand should be 0.
func TestCheckOfImages(t *testing.T) {
	for _, op := range []int{api.OpCheck, api.OpEnter, api.OpBottom, api.OpDriver} {
		wants(t, api.Instr{Op: op}, api.OK)
		wants(t, api.Instr{Op: op, A: 1, B: 2, C: 3, N: 4}, api.OK)
		wants(t, api.Instr{Op: op, A: 255, B: 255, C: 255, N: most}, api.OK)
		wants(t, api.Instr{Op: op, N: least}, api.OK)
		wants(t, api.Instr{Op: op, A: 256}, api.ErrRange)
		wants(t, api.Instr{Op: op, B: -1}, api.ErrRange)
		wants(t, api.Instr{Op: op, N: most + 1}, api.ErrRange)
	}
}

// P8.2, bytes written out.
func TestPut(t *testing.T) {
	for _, x := range []struct {
		b    string
		x    api.Instr
		want string
	}{
		{"", api.Instr{Op: api.OpSet, A: 2, N: 258}, "\x02\x02\x00\x00\x00\x00\x01\x02"},
		{"\x09", api.Instr{Op: api.OpSet, A: 2, N: 258}, "\x09\x02\x02\x00\x00\x00\x00\x01\x02"},
		{"", api.Instr{}, "\x00\x00\x00\x00\x00\x00\x00\x00"},
		{"abc", api.Instr{Op: api.OpVia, A: 1, B: 2, C: 3}, "abc\x14\x01\x02\x03\x00\x00\x00\x00"},
		{"", api.Instr{Op: api.OpJump, N: -1}, "\x0b\x00\x00\x00\xff\xff\xff\xff"},
		{"", api.Instr{Op: api.OpJump, N: least}, "\x0b\x00\x00\x00\x80\x00\x00\x00"},
		{"", api.Instr{Op: api.OpJump, N: most}, "\x0b\x00\x00\x00\x7f\xff\xff\xff"},
		{"", api.Instr{Op: api.OpDriver, A: 255, B: 254, C: 253, N: 0x01020304}, "\x1c\xff\xfe\xfd\x01\x02\x03\x04"},
		// What may not be is put, too: the lowest bits of it.
		{"", api.Instr{Op: api.OpNop, A: 1, B: 2, C: 3, N: 4}, "\x01\x01\x02\x03\x00\x00\x00\x04"},
		{"", api.Instr{Op: 258, A: 257, B: 256, C: 511, N: 1<<32 + 5}, "\x02\x01\x00\xff\x00\x00\x00\x05"},
		{"", api.Instr{Op: -1, A: -1, B: -2, C: -256, N: -1 << 40}, "\xff\xff\xfe\x00\x00\x00\x00\x00"},
		{"", api.Instr{Op: math.MinInt, A: math.MaxInt, B: math.MinInt, C: math.MaxInt, N: math.MaxInt64}, "\x00\xff\x00\xff\xff\xff\xff\xff"},
		{"", api.Instr{Op: 29, N: math.MinInt64}, "\x1d\x00\x00\x00\x00\x00\x00\x00"},
	} {
		if got := string(instr.Put([]byte(x.b), x.x)); got != x.want {
			t.Errorf("Put(%q, %v) = %q; want %q", x.b, x.x, got, x.want)
		}
	}
	if got := string(instr.Put(nil, api.Instr{Op: 1})); got != "\x01\x00\x00\x00\x00\x00\x00\x00" {
		t.Errorf("Put(nil, nop) = %q", got)
	}
}

// P8.2, many are put behind one another.
func TestPutMany(t *testing.T) {
	var b []byte
	want := ""
	for _, x := range good() {
		b = instr.Put(b, x)
		want += written(x)
	}
	if string(b) != want {
		t.Error("what is put behind one another is another thing")
	}
}

// P8.2 and the rules: no list handed in is changed, none answered shares memory with it.
func TestPutShares(t *testing.T) {
	x := api.Instr{Op: api.OpVia, A: 1, B: 2, C: 3}
	for _, room := range []int{0, 1, 7, 8, 400} {
		for _, has := range []int{0, 1, 3} {
			all := bytes.Repeat([]byte{7}, has+room)
			b := all[:has]
			first, second := instr.Put(b, x), instr.Put(b, x)
			want := string(second)
			first = first[:cap(first)]
			for i := range first {
				first[i] = 1
			}
			if string(second) != want || string(instr.Put(b, x)) != want {
				t.Errorf("%d, room %d: an answer shares memory with another", has, room)
			}
			if strings.Trim(string(all), "\x07") != "" {
				t.Errorf("%d, room %d: what was handed in is %q", has, room, all)
			}
			for i := range all {
				all[i] = 8
			}
			if string(second) != want {
				t.Errorf("%d, room %d: what was handed in is kept", has, room)
			}
		}
	}
}

// P8.2, bytes written out are got.
func TestGet(t *testing.T) {
	for _, x := range []struct {
		b    string
		want api.Instr
	}{
		{"\x02\x02\x00\x00\x00\x00\x01\x02", api.Instr{Op: api.OpSet, A: 2, N: 258}},
		{"\x02\xff\x00\x00\xff\xff\xff\xff", api.Instr{Op: api.OpSet, A: 255, N: -1}},
		{"\x02\x80\x00\x00\x80\x00\x00\x00", api.Instr{Op: api.OpSet, A: 128, N: least}},
		{"\x02\x00\x00\x00\x7f\xff\xff\xff", api.Instr{Op: api.OpSet, N: most}},
		{"\x0b\x00\x00\x00\xff\xff\xff\x00", api.Instr{Op: api.OpJump, N: -256}},
		{"\x0b\x00\x00\x00\x00\x00\xff\xff", api.Instr{Op: api.OpJump, N: 65535}},
		{"\x04\xff\xfe\x80\x00\x00\x00\x00", api.Instr{Op: api.OpAdd, A: 255, B: 254, C: 128}},
		{"\x01\x00\x00\x00\x00\x00\x00\x00", api.Instr{Op: api.OpNop}},
		{"\x1c\x01\x02\x03\x01\x02\x03\x04", api.Instr{Op: api.OpDriver, A: 1, B: 2, C: 3, N: 0x01020304}},
	} {
		for _, behind := range []string{"", "\x00", "\x09\x09\x09\x09\x09\x09\x09", "\x01\x00\x00\x00\x00\x00\x00\x00"} {
			r := octet.New([]byte(x.b + behind))
			if got, e := instr.Get(r); got != x.want || e != api.OK {
				t.Errorf("of %q: %v, %v; want %v", x.b, got, e, x.want)
			}
			state(t, "Get", r, 8, len(behind), false)
		}
	}
}

// bad tells that a bad reader answers nothing more, and takes nothing.
func bad(t *testing.T, what string, r *octet.Reader) {
	t.Helper()
	at, left := r.At(), r.Left()
	if x, e := instr.Get(r); x != (api.Instr{}) || e != api.ErrShort {
		t.Errorf("%s: of a bad reader %v, %v", what, x, e)
	}
	state(t, what+", once more", r, at, left, true)
	if r.Num(1) != 0 || r.Text(255) != "" {
		t.Errorf("%s: a bad reader reads", what)
	}
}

// P8.2, too few bytes: nothing is taken, and the reader is bad.
func TestGetShort(t *testing.T) {
	for has := range 8 {
		for _, c := range []byte{0, 1, 2, 255} {
			b := bytes.Repeat([]byte{c}, has)
			r := octet.New(b)
			if x, e := instr.Get(r); x != (api.Instr{}) || e != api.ErrShort {
				t.Errorf("of %d bytes: %v, %v", has, x, e)
			}
			state(t, "too few", r, 0, has, true)
			bad(t, "too few", r)

			r = octet.New(append([]byte{2, 9, 9}, b...))
			r.Text(2)
			if x, e := instr.Get(r); x != (api.Instr{}) || e != api.ErrShort {
				t.Errorf("behind a text, of %d bytes: %v, %v", has, x, e)
			}
			state(t, "too few, behind a text", r, 3, has, true)
			bad(t, "too few, behind a text", r)

			r = octet.New(append(instr.Put(nil, api.Instr{Op: 1}), b...))
			if x, e := instr.Get(r); x != (api.Instr{Op: 1}) || e != api.OK {
				t.Errorf("%d bytes ahead of the end: %v, %v", 8+has, x, e)
			}
			if x, e := instr.Get(r); x != (api.Instr{}) || e != api.ErrShort {
				t.Errorf("behind an instruction, of %d bytes: %v, %v", has, x, e)
			}
			state(t, "too few, behind an instruction", r, 8, has, true)
		}
	}
}

// P8.2, readers that are bad, though there are bytes enough.
func TestGetBad(t *testing.T) {
	b := instr.Put(instr.Put(nil, api.Instr{Op: 1}), api.Instr{Op: 2, A: 1, N: 2})
	for what, spoil := range map[string]func(r *octet.Reader){
		"Num(0)":   func(r *octet.Reader) { r.Num(0) },
		"Num(9)":   func(r *octet.Reader) { r.Num(9) },
		"Signed":   func(r *octet.Reader) { r.Signed(-1) },
		"Text(-1)": func(r *octet.Reader) { r.Text(-1) },
	} {
		r := octet.New(b)
		spoil(r)
		bad(t, what, r)
		state(t, what, r, 0, 16, true)

		r = octet.New(b)
		instr.Get(r)
		spoil(r)
		bad(t, what+", later", r)
		state(t, what+", later", r, 8, 8, true)
	}
}

// P8.2, readers that are nobody's.
func TestGetNobody(t *testing.T) {
	for what, r := range map[string]*octet.Reader{"nil": nil, "a literal's": {}, "new's": new(octet.Reader)} {
		for range 2 {
			if x, e := instr.Get(r); x != (api.Instr{}) || e != api.ErrShort {
				t.Errorf("%s: %v, %v", what, x, e)
			}
			state(t, what, r, 0, 0, true)
		}
	}
}

// P8.2, bytes that are no instruction: they are taken, and reading goes on behind them.
func TestGetRefused(t *testing.T) {
	behind := api.Instr{Op: api.OpSet, A: 2, N: -258}
	for _, x := range []struct {
		b    string
		want api.Errno
	}{
		{"\x00\x00\x00\x00\x00\x00\x00\x00", api.ErrKind},
		{"\x00\x01\x02\x03\x04\x05\x06\x07", api.ErrKind},
		{"\x1d\x00\x00\x00\x00\x00\x00\x00", api.ErrKind},
		{"\x80\x00\x00\x00\x00\x00\x00\x00", api.ErrKind},
		{"\xff\xff\xff\xff\xff\xff\xff\xff", api.ErrKind},
		{"\x01\x01\x00\x00\x00\x00\x00\x00", api.ErrArg},
		{"\x01\x00\x01\x00\x00\x00\x00\x00", api.ErrArg},
		{"\x01\x00\x00\x01\x00\x00\x00\x00", api.ErrArg},
		{"\x01\x00\x00\x00\x00\x00\x00\x01", api.ErrArg},
		{"\x01\x00\x00\x00\x80\x00\x00\x00", api.ErrArg},
		{"\x02\x00\x01\x00\x00\x00\x00\x00", api.ErrArg},
		{"\x04\x01\x02\x03\xff\xff\xff\xff", api.ErrArg},
		{"\x0b\xff\x00\x00\x00\x00\x00\x00", api.ErrArg},
		{"\x18\x01\x00\xff\x00\x00\x00\x00", api.ErrArg},
	} {
		r := octet.New([]byte("\x09" + x.b + written(behind) + x.b))
		r.Num(1)
		if got, e := instr.Get(r); got != (api.Instr{}) || e != x.want {
			t.Errorf("of %q: %v, %v; want %v", x.b, got, e, x.want)
		}
		state(t, "refused", r, 9, 16, false)
		if got, e := instr.Get(r); got != behind || e != api.OK {
			t.Errorf("behind %q: %v, %v; want %v", x.b, got, e, behind)
		}
		if got, e := instr.Get(r); got != (api.Instr{}) || e != x.want {
			t.Errorf("of %q, at the end: %v, %v; want %v", x.b, got, e, x.want)
		}
		state(t, "refused, at the end", r, 25, 0, false)
	}
}

// P8.2, each operation's byte with each operand alone, held against Check.
func TestGetChecks(t *testing.T) {
	for op := range 256 {
		for at := 0; at < 8; at++ {
			for _, c := range []byte{0, 1, 127, 128, 255} {
				b := []byte{byte(op), 0, 0, 0, 0, 0, 0, 0}
				if at > 0 {
					b[at] = c
				}
				want := api.Instr{Op: op, A: int(b[1]), B: int(b[2]), C: int(b[3]), N: int64(int32(uint32(b[4])<<24 | uint32(b[5])<<16 | uint32(b[6])<<8 | uint32(b[7])))}
				wrong := instr.Check(want)
				if wrong != api.OK {
					want = api.Instr{}
				}
				r := octet.New(b)
				if got, e := instr.Get(r); got != want || e != wrong {
					t.Errorf("of %q: %v, %v; want %v, %v", b, got, e, want, wrong)
				}
				state(t, "Get", r, 8, 0, false)
			}
		}
	}
}

// places are those of operands, and of none.
func places() []int {
	return []int{math.MinInt, math.MinInt + 3, -1<<32 + 1, -256, -255, -4, -3, -2, -1, 0, 1, 2, 3, 4, 5, 6, 7, 8, 255, 256, 257, 259, 65536, 1 << 32, 1<<32 + 2, 1<<62 + 3, math.MaxInt}
}

// odd are instructions of any numbers: operands are told, and changed, of what may not be, too.
func odd() []api.Instr {
	return []api.Instr{
		{}, {Op: 1}, {Op: 2, A: 2, N: 258}, {Op: 4, A: 10, B: 20, C: 30, N: 40}, {Op: 26, A: 255, B: 254, C: 253, N: least},
		{Op: -1, A: -1, B: -2, C: -3, N: -4}, {Op: 29, A: 256, B: 257, C: 258, N: most + 1},
		{Op: math.MinInt, A: math.MinInt, B: math.MaxInt, C: math.MinInt + 1, N: math.MaxInt64},
		{Op: math.MaxInt, A: math.MaxInt, B: math.MinInt, C: math.MaxInt - 1, N: math.MinInt64},
	}
}

// P8.3, operands, and places of none.
func TestOperand(t *testing.T) {
	for _, x := range odd() {
		for _, i := range places() {
			want := int64(0)
			switch i {
			case 0:
				want = int64(x.A)
			case 1:
				want = int64(x.B)
			case 2:
				want = int64(x.C)
			case 3:
				want = x.N
			}
			if got := instr.Operand(x, i); got != want {
				t.Errorf("Operand(%v, %d) = %d; want %d", x, i, got, want)
			}
		}
	}
}

// P8.3, operands that are other ones; at places of none nothing is.
func TestWith(t *testing.T) {
	for _, x := range odd() {
		for _, i := range places() {
			for _, n := range append(longs(), badLong()...) {
				was, want := x, put(x, i, n)
				got := instr.With(x, i, n)
				if got != want || x != was {
					t.Errorf("With(%v, %d, %d) = %v; want %v", was, i, n, got, want)
				}
				is := int64(0)
				if 0 <= i && i <= 3 {
					is = n
				}
				if instr.Operand(got, i) != is {
					t.Errorf("the operand at %d of %v is not %d", i, got, is)
				}
			}
		}
	}
}

// P8.4, what may be is got as it was put, alone and among others.
func TestThereAndBack(t *testing.T) {
	var all []byte
	for _, x := range good() {
		b := instr.Put(nil, x)
		if string(b) != written(x) {
			t.Errorf("Put(nil, %v) = %q", x, b)
		}
		r := octet.New(b)
		if got, e := instr.Get(r); got != x || e != api.OK {
			t.Errorf("%v is got as %v, %v", x, got, e)
		}
		state(t, "Get", r, 8, 0, false)
		all = append(all, b...)
	}
	r := octet.New(all)
	for _, x := range good() {
		if got, e := instr.Get(r); got != x || e != api.OK {
			t.Fatalf("among others %v is got as %v, %v", x, got, e)
		}
	}
	state(t, "all", r, len(all), 0, false)
}

// P8.4, what is got is put as it was.
func TestBackAndThere(t *testing.T) {
	chance := uint64(7)
	for range 100000 {
		b := make([]byte, 8)
		for i := range b {
			chance = chance*6364136223846793005 + 1442695040888963407
			b[i] = byte(chance >> 56)
			if i == 0 {
				b[i] = b[i] % 30
			} else if chance>>40&3 == 0 {
				b[i] = 0
			}
		}
		x, e := instr.Get(octet.New(b))
		if e != api.OK {
			continue
		}
		if instr.Check(x) != api.OK || string(instr.Put(nil, x)) != string(b) {
			t.Errorf("%q is got as %v, and put as %q", b, x, instr.Put(nil, x))
		}
	}
}

// P7, of instr: each call ends at all arguments, and answers alike when it is asked again.
func TestInstrEnds(t *testing.T) {
	for _, x := range append(odd(), good()[:60]...) {
		if instr.Check(x) != instr.Check(x) || string(instr.Put(nil, x)) != string(instr.Put(nil, x)) {
			t.Errorf("of %v", x)
		}
		for _, i := range places() {
			if instr.Operand(x, i) != instr.Operand(x, i) {
				t.Errorf("Operand(%v, %d)", x, i)
			}
			for _, n := range badLong() {
				if instr.With(x, i, n) != instr.With(x, i, n) {
					t.Errorf("With(%v, %d, %d)", x, i, n)
				}
			}
		}
		first, second := octet.New(instr.Put(nil, x)), octet.New(instr.Put(nil, x))
		for range 3 {
			got, e := instr.Get(first)
			again, f := instr.Get(second)
			if got != again || e != f || e != api.OK && got != (api.Instr{}) {
				t.Errorf("of %v: %v, %v and %v, %v", x, got, e, again, f)
			}
		}
	}
}
