package file_test

import (
	"bytes"
	"fmt"
	"math"
	"slices"
	"strings"
	"testing"

	"sheerleg/api"
	"sheerleg/data"
	"sheerleg/file"
	"sheerleg/fun"
	"sheerleg/object"
	"sheerleg/octet"
	"sheerleg/sum"
)

// head is the first four bytes of each object's.
const head = "SHL1"

// chance gives numbers that look as if they hung on nothing, always the same ones.
type chance uint64

func (c *chance) next(n int) int {
	*c = *c*6364136223846793005 + 1442695040888963407
	return int(*c >> 33 % chance(n))
}

// numbers are those that any call may be given.
func numbers() []int {
	return []int{math.MinInt, math.MinInt + 1, -1 << 32, -65536, -257, -256, -129, -128, -127, -2, -1, 0, 1, 2, 3, 7, 8, 9, 31, 32, 33, 127, 128, 129, 254, 255, 256, 257, 4096, 65535, 65536, 1 << 31, 1 << 32, 1<<32 + 1, math.MaxInt - 1, math.MaxInt}
}

// last returns from functions that do not answer, or answers the first slot.
var last = api.Instr{Op: api.OpReturn}

// right is an object that is right.
func right() api.Object {
	return api.Object{
		Symbols: []api.Symbol{
			{Name: "main", Sort: api.SymFunc, Kind: 1, Def: 0}, {Name: "there", Sort: api.SymFunc, Kind: 3, Def: -1}, {Name: "n", Local: true, Sort: api.SymData, Def: 0}, {Name: "table", Sort: api.SymData, Kind: 4, Def: 1}, {Name: "p._9", Local: true, Sort: api.SymFunc, Kind: 2, Def: 1}, {Name: strings.Repeat("z", 24), Sort: api.SymData, Kind: 8, Def: -1},
		},
		Funcs: []api.Func{
			{Class: 1, Kinds: []int{0, 4}, Pad: 300, Nosplit: true, From: 1, To: 4, Lines: []api.Line{{At: 0, Line: 7}, {At: 2, Line: 65535}}, Code: []api.Instr{{Op: api.OpDefer, A: 0}, {Op: api.OpSet, A: 0, N: -2}, {Op: api.OpLoad, A: 0, B: 0}, last}, Relocs: []api.Reloc{{At: 0, Sym: 4, Wide: true}, {At: 2, Sym: 2}}},
			{Class: 2, Kinds: []int{0}, Code: []api.Instr{{Op: api.OpOut}, last}},
		},
		Datas: []api.Data{
			{Words: []int64{-1, math.MinInt64, 258}},
			{Kind: 4, Words: []int64{0, 0}, Relocs: []api.Reloc{{At: 1, Sym: 1, Wide: true}}},
		},
	}
}

// same tells whether two objects are alike, of whatever kind their empty lists are.
func same(a, b api.Object) bool {
	return slices.Equal(a.Symbols, b.Symbols) && slices.EqualFunc(a.Funcs, b.Funcs, sameFunc) && slices.EqualFunc(a.Datas, b.Datas, sameData)
}

func sameFunc(a, b api.Func) bool {
	return a.Class == b.Class && slices.Equal(a.Kinds, b.Kinds) && a.Pad == b.Pad && a.Nosplit == b.Nosplit && a.From == b.From && a.To == b.To && slices.Equal(a.Lines, b.Lines) && slices.Equal(a.Code, b.Code) && slices.Equal(a.Relocs, b.Relocs)
}

func sameData(a, b api.Data) bool {
	return a.Kind == b.Kind && slices.Equal(a.Words, b.Words) && slices.Equal(a.Relocs, b.Relocs)
}

func isZero(o api.Object) bool {
	return len(o.Symbols) == 0 && len(o.Funcs) == 0 && len(o.Datas) == 0
}

// gets holds Get of what is sealed against an object, or an error.
func gets(t *testing.T, sealed []byte, want api.Object, why api.Errno) {
	t.Helper()
	if o, e := file.Get(sealed); e != why || !same(o, want) {
		t.Errorf("Get(%q) = %v, %v; want %v, %v", sealed, o, e, want, why)
	}
}

// refuses holds Get of these bytes, behind which their sum comes, against an error; Read tells it, too, and -1.
func refuses(t *testing.T, b string, why api.Errno) {
	t.Helper()
	sealed := sum.Seal([]byte(b))
	gets(t, sealed, api.Object{}, why)
	if o, e, at := file.Read(sealed); e != why || at != -1 || !isZero(o) {
		t.Errorf("Read(%q) = %v, %v, %d; want %v, -1", sealed, o, e, at, why)
	}
}

// puts holds Put against bytes, behind which their sum comes.
func puts(t *testing.T, o api.Object, want string) {
	t.Helper()
	if got := file.Put(o); string(got) != string(sum.Seal([]byte(want))) {
		t.Errorf("Put(%v) = %q; want %q, and its sum", o, got, want)
	}
}

// bytesOf is an object's bytes without their sum, put together by hand.
func bytesOf(o api.Object) []byte {
	b := []byte(head)
	b = append(b, byte(len(o.Symbols)))
	for _, s := range o.Symbols {
		local := byte(0)
		if s.Local {
			local = 1
		}
		n := min(255, len(s.Name))
		b = append(append(append(b, byte(n)), s.Name[:n]...), local, byte(s.Sort), byte(s.Kind), byte(s.Def))
	}
	b = append(b, byte(len(o.Funcs)))
	for _, f := range o.Funcs {
		b = fun.Put(b, f)
	}
	b = append(b, byte(len(o.Datas)))
	for _, d := range o.Datas {
		b = data.Put(b, d)
	}
	return b
}

// Example 1: an object of nothing.
func TestNothing(t *testing.T) {
	for _, o := range []api.Object{{}, {Symbols: []api.Symbol{}, Funcs: []api.Func{}, Datas: []api.Data{}}} {
		puts(t, o, head+"\x00\x00\x00")
		b := file.Put(o)
		if len(b) != 11 {
			t.Errorf("an object of nothing has %d bytes", len(b))
		}
		gets(t, b, api.Object{}, api.OK)
		if o, e, at := file.Read(b); e != api.OK || at != -1 || !isZero(o) {
			t.Errorf("Read of nothing: %v, %v, %d", o, e, at)
		}
		if w, e, at := file.Write(o); e != api.OK || at != -1 || !bytes.Equal(b, w) {
			t.Errorf("Write of nothing: %q, %v, %d", w, e, at)
		}
	}
}

// P20.1, Put, written out; what is put may be wrong.
func TestPut(t *testing.T) {
	f := api.Func{Code: []api.Instr{last}}
	const (
		fBytes = "\x00\x00\x00\x00\x00\x00\x00\x00\x01\x18\x00\x00\x00\x00\x00\x00\x00\x00"
		dBytes = "\x00\x01\x00\x00\x00\x00\x00\x00\x01\x02\x00"
	)
	d := api.Data{Words: []int64{258}}
	for _, c := range []struct {
		o    api.Object
		want string
	}{
		{api.Object{Symbols: []api.Symbol{{Name: "ab", Sort: 1, Kind: 7, Def: 3}}}, "\x01\x02ab\x00\x01\x07\x03\x00\x00"},
		{api.Object{Symbols: []api.Symbol{{Name: "ab", Local: true, Sort: 2, Kind: 8, Def: -1}}}, "\x01\x02ab\x01\x02\x08\xff\x00\x00"},
		{api.Object{Symbols: []api.Symbol{{}, {Def: 1}}}, "\x02\x00\x00\x00\x00\x00\x00\x00\x00\x00\x01\x00\x00"},
		{api.Object{Funcs: []api.Func{f}}, "\x00\x01" + fBytes + "\x00"},
		{api.Object{Funcs: []api.Func{f, {}}}, "\x00\x02" + fBytes + strings.Repeat("\x00", 10) + "\x00"},
		{api.Object{Datas: []api.Data{d}}, "\x00\x00\x01" + dBytes},
		{api.Object{Datas: []api.Data{{}, d}}, "\x00\x00\x02\x00\x00\x00" + dBytes},
		{api.Object{Symbols: []api.Symbol{{Name: "f", Sort: 1}, {Name: "d", Sort: 2}}, Funcs: []api.Func{f}, Datas: []api.Data{d}}, "\x02\x01f\x00\x01\x00\x00\x01d\x00\x02\x00\x00\x01" + fBytes + "\x01" + dBytes},
		// What has no room in its bytes: the lowest bits.
		{api.Object{Symbols: []api.Symbol{{Name: "a", Sort: 257, Kind: 1<<32 + 258, Def: 300}}}, "\x01\x01a\x00\x01\x02\x2c\x00\x00"},
		{api.Object{Symbols: []api.Symbol{{Name: "a", Sort: -1, Kind: math.MinInt, Def: -129}}}, "\x01\x01a\x00\xff\x00\x7f\x00\x00"},
		{api.Object{Symbols: []api.Symbol{{Name: "a", Sort: math.MaxInt, Kind: -2, Def: 128}}}, "\x01\x01a\x00\xff\xfe\x80\x00\x00"},
		{api.Object{Symbols: []api.Symbol{{Name: strings.Repeat("q", 300)}}}, "\x01\xff" + strings.Repeat("q", 255) + "\x00\x00\x00\x00\x00\x00"},
		{api.Object{Symbols: []api.Symbol{{Name: "\x00\xff\n"}}}, "\x01\x03\x00\xff\n\x00\x00\x00\x00\x00\x00"},
		{api.Object{Symbols: make([]api.Symbol, 256)}, "\x00" + strings.Repeat("\x00", 5*256) + "\x00\x00"},
		{api.Object{Funcs: make([]api.Func, 257)}, "\x00\x01" + strings.Repeat("\x00", 10*257) + "\x00"},
		{api.Object{Datas: make([]api.Data, 258)}, "\x00\x00\x02" + strings.Repeat("\x00", 3*258)},
	} {
		puts(t, c.o, head+c.want)
	}
	puts(t, right(), string(bytesOf(right())))
}

// P20.1, Get, written out: what may not be is got as well.
func TestGet(t *testing.T) {
	for _, c := range []struct {
		b    string
		want api.Object
	}{
		{"\x01\x02ab\x00\x01\x07\x03\x00\x00", api.Object{Symbols: []api.Symbol{{Name: "ab", Sort: 1, Kind: 7, Def: 3}}}},
		{"\x01\x02ab\x01\xff\xfe\xff\x00\x00", api.Object{Symbols: []api.Symbol{{Name: "ab", Local: true, Sort: 255, Kind: 254, Def: -1}}}},
		{"\x02\x00\x00\x00\x00\x80\x03\x00\xffA\x01\x80\x7f\x7f\x00\x00", api.Object{Symbols: []api.Symbol{{Def: -128}, {Name: "\x00\xffA", Local: true, Sort: 128, Kind: 127, Def: 127}}}},
		{"\x01\xff" + strings.Repeat("q", 255) + "\x00\x01\x00\x00\x00\x00", api.Object{Symbols: []api.Symbol{{Name: strings.Repeat("q", 255), Sort: 1}}}},
		{"\x01\x19" + strings.Repeat("a", 25) + "\x00\x01\x00\x00\x00\x00", api.Object{Symbols: []api.Symbol{{Name: strings.Repeat("a", 25), Sort: 1}}}},
		{"\x00\x01\xff\x00\x00\x00\x01\x02\x03\x00\x00\x00\x00", api.Object{Funcs: []api.Func{{Class: 255, Nosplit: true, From: 2, To: 3}}}},
		{"\x00\x00\x01\xff\x00\x01\x09\x08\x01", api.Object{Datas: []api.Data{{Kind: 255, Relocs: []api.Reloc{{At: 9, Sym: 8, Wide: true}}}}}},
		{"\xff" + strings.Repeat("\x00\x00\x01\x00\x00", 255) + "\x00\x00", api.Object{Symbols: slices.Repeat([]api.Symbol{{Sort: 1}}, 255)}},
		{"\x00\xff" + strings.Repeat("\x00", 10*255) + "\x00", api.Object{Funcs: make([]api.Func, 255)}},
		{"\x00\x00\xff" + strings.Repeat("\x00", 3*255), api.Object{Datas: make([]api.Data, 255)}},
	} {
		gets(t, sum.Seal([]byte(head+c.b)), c.want, api.OK)
	}
	gets(t, file.Put(right()), right(), api.OK)
}

// P20.1: each byte of Def, with its sign, of Sort and of Kind, without.
func TestBytes(t *testing.T) {
	for n := range 256 {
		signed := n
		if n > 127 {
			signed = n - 256
		}
		b := "\x01\x01a\x00" + string([]byte{byte(n), byte(255 - n), byte(n)}) + "\x00\x00"
		want := api.Object{Symbols: []api.Symbol{{Name: "a", Sort: n, Kind: 255 - n, Def: signed}}}
		gets(t, sum.Seal([]byte(head+b)), want, api.OK)
		puts(t, want, head+b)
	}
}

// P20.1, sum.Open's error: fewer than four bytes, none, and a wrong sum, of each byte that is another one.
func TestSum(t *testing.T) {
	for _, b := range [][]byte{nil, {}, {1}, {0, 0}, {0, 0, 1}, []byte("SHL")} {
		gets(t, b, api.Object{}, api.ErrShort)
		if o, e, at := file.Read(b); e != api.ErrShort || at != -1 || !isZero(o) {
			t.Errorf("Read(%q) = %v, %v, %d", b, o, e, at)
		}
	}
	for _, b := range [][]byte{{0, 0, 0, 0}, []byte("SHL1"), []byte("SHL1\x00\x00\x00"), []byte("SHL1\x00\x00\x00\x00\x00\x00\x00"), make([]byte, 100), bytes.Repeat([]byte{255}, 300)} {
		gets(t, b, api.Object{}, api.ErrSum)
	}
	for _, o := range []api.Object{{}, right()} {
		whole := file.Put(o)
		for at := range whole {
			for _, x := range []byte{1, 2, 16, 128, 255} {
				b := slices.Clone(whole)
				b[at] ^= x
				gets(t, b, api.Object{}, api.ErrSum)
				if o, e, place := file.Read(b); e != api.ErrSum || place != -1 || !isZero(o) {
					t.Errorf("Read, byte %d turned: %v, %v, %d", at, o, e, place)
				}
			}
		}
		// Bytes that lack are told by the sum first.
		for n := range whole {
			want := api.ErrSum
			if n < 4 {
				want = api.ErrShort
			}
			gets(t, whole[:n], api.Object{}, want)
		}
		gets(t, append(slices.Clone(whole), 0), api.Object{}, api.ErrSum)
	}
}

// P20.1: the first four bytes being others, each of them, and not so many of them.
func TestHead(t *testing.T) {
	for _, behind := range []string{"\x00\x00\x00", "", "\x00", "\x01", "\x01\x01a\x02", "\xff\xff", "\x00\x00\x00\x00"} {
		for at := range len(head) {
			for x := range 256 {
				b := []byte(head)
				b[at] = byte(x)
				if string(b) != head {
					refuses(t, string(b)+behind, api.ErrForm)
				}
			}
		}
		for _, other := range []string{"1LHS", "shl1", "SHL2", "\x00\x00\x00\x00", "\xff\xff\xff\xff", "SHI1", "HL1S"} {
			refuses(t, other+behind, api.ErrForm)
		}
	}
	for _, b := range []string{"", "S", "SH", "SHL", "x", "xy", "xyz", "\x00\x00\x00", "SHX"} {
		refuses(t, b, api.ErrShort)
	}
}

// P20.1, ErrShort: bytes cut at every place, and what they count more than there is.
func TestShort(t *testing.T) {
	for _, o := range []api.Object{{}, right(), {Symbols: right().Symbols}, {Funcs: right().Funcs}, {Datas: right().Datas}} {
		whole := bytesOf(o)
		for n := range whole {
			refuses(t, string(whole[:n]), api.ErrShort)
		}
		gets(t, sum.Seal(whole), o, api.OK)
	}
	for _, b := range []string{"\xff", "\x01", "\x01\x05abcd", "\x01\xff\x00", "\x02\x00\x00\x01\x00\x00", "\x00\x01", "\x00\xff", "\x00\x00\x01", "\x00\x00\xff\x00\x00\x00", "\x00\x02" + strings.Repeat("\x00", 11), "\x00\x00\x02\x00\x00\x00\x00\x00"} {
		refuses(t, head+b, api.ErrShort)
	}
}

// P20.1, ErrForm: a byte of yes or no that is neither, of symbols, functions, references; what stands behind, or lacks there, does not count.
func TestForm(t *testing.T) {
	for x := 2; x < 256; x++ {
		yes := string([]byte{byte(x)})
		for _, b := range []string{
			"\x01\x01a" + yes + "\x01\x00\x00\x00\x00",
			"\x01\x01a" + yes,
			"\x01\x01a" + yes + "\x01",
			"\xff\x00" + yes + "\x01\x00\x00",
			"\x02\x01a\x01\x01\x00\x00\x01b" + yes + "\x01\x00\x00\x00\x00",
			// Nosplit of a function, and Wide of its reference, and of data's.
			"\x00\x01\x00\x00\x00\x00" + yes + "\x00\x00\x00\x00\x00\x00",
			"\x00\x01\x00\x00\x00\x00" + yes,
			"\x00\x01\x00\x00\x00\x00\x00\x00\x00\x00\x00\x01\x00\x00" + yes + "\x00",
			"\x00\x00\x01\x01\x00\x01\x00\x00" + yes,
			"\x00\x00\x02\x01\x00\x01\x00\x00" + yes + "\x00",
		} {
			refuses(t, head+b, api.ErrForm)
		}
	}
	for _, yes := range []string{"\x00", "\x01"} {
		gets(t, sum.Seal([]byte(head+"\x01\x01a"+yes+"\x01\x00\x00\x00\x00")), api.Object{Symbols: []api.Symbol{{Name: "a", Local: yes == "\x01", Sort: 1}}}, api.OK)
	}
}

// P20.1, the error of fun.Get: that of an instruction, too.
func TestFunctions(t *testing.T) {
	const ahead, behind = "\x00\x01\x00\x00\x00\x00\x00\x00\x00\x00\x01", "\x00"
	for _, c := range []struct {
		code string
		why  api.Errno
	}{
		{"\x18\x00\x00\x00\x00\x00\x00\x00", api.OK}, {"\x18\xff\x00\x00\x00\x00\x00\x00", api.OK}, {"\x02\x01\x00\x00\xff\xff\xff\xff", api.OK},
		{"\x00\x00\x00\x00\x00\x00\x00\x00", api.ErrKind}, {"\x1d\x00\x00\x00\x00\x00\x00\x00", api.ErrKind}, {"\xff\x00\x00\x00\x00\x00\x00\x00", api.ErrKind},
		{"\x01\x01\x00\x00\x00\x00\x00\x00", api.ErrArg}, {"\x18\x00\x00\x00\x00\x00\x00\x01", api.ErrArg},
	} {
		if b := head + ahead + c.code + "\x00" + behind; c.why != api.OK {
			refuses(t, b, c.why)
			refuses(t, b[:len(b)-1], c.why)
			refuses(t, b[:len(b)-2], c.why)
			refuses(t, b[:len(b)-3], api.ErrShort) // an instruction that is not there whole
			refuses(t, b+"\x00", c.why)
		} else if _, e := file.Get(sum.Seal([]byte(b))); e != api.OK {
			t.Errorf("Get of instruction %q: %v", c.code, e)
		}
	}
}

// P20.1, ErrLong: bytes left behind, whatever they are.
func TestLong(t *testing.T) {
	for _, o := range []api.Object{{}, right()} {
		whole := string(bytesOf(o))
		for _, behind := range []string{"\x00", "\x01", "\xff", "\x00\x00\x00\x00", head, whole, strings.Repeat("\x07", 300)} {
			refuses(t, whole+behind, api.ErrLong)
		}
		// Also a sum behind the sum.
		refuses(t, string(file.Put(o)), api.ErrLong)
	}
}

// P20.1: two things wrong at once, of which the one that stands first is told, and the sum ahead of all.
func TestFirst(t *testing.T) {
	const (
		ok     = "\x01a\x00\x01\x00\x00"
		local  = "\x01b\x02\x01\x00\x00"
		kind   = "\x00\x00\x00\x00\x00\x00\x00\x00\x01\x00\x00\x00\x00\x00\x00\x00\x00\x00"
		plain  = "\x00\x00\x00\x00\x00\x00\x00\x00\x00\x00"
		split  = "\x00\x00\x00\x00\x02\x00\x00\x00\x00\x00"
		words  = "\x00\x00\x00"
		wide   = "\x01\x00\x01\x00\x00\x02"
		behind = "\x00"
	)
	for _, c := range []struct {
		b   string
		why api.Errno
	}{
		{"SHL0" + "\x01" + local, api.ErrForm}, {"SHL0" + "\x00\x01" + kind, api.ErrForm}, {"SHL0", api.ErrForm},
		{head + "\x02" + ok + local + "\x01" + kind + "\x00", api.ErrForm}, {head + "\x01" + local + "\x01" + kind + "\x01" + wide + behind, api.ErrForm},
		{head + "\x01" + ok + "\x02" + kind + split + "\x01" + wide + behind, api.ErrKind}, {head + "\x01" + ok + "\x02" + split + kind, api.ErrForm}, {head + "\x01" + ok + "\x02" + plain + kind, api.ErrKind}, {head + "\x01" + ok + "\x03" + plain + kind, api.ErrKind}, {head + "\x01" + ok + "\x03" + plain + plain, api.ErrShort},
		{head + "\x00\x00\x02" + words + wide + behind, api.ErrForm}, {head + "\x00\x00\x02" + wide, api.ErrForm}, {head + "\x00\x00\x03" + words + words, api.ErrShort}, {head + "\x00\x00\x01" + words + words, api.ErrLong},
		{head + "\x01" + ok + "\x00\x00" + local, api.ErrLong},
	} {
		refuses(t, c.b, c.why)
		b := sum.Seal([]byte(c.b))
		b[len(b)-1] ^= 1
		gets(t, b, api.Object{}, api.ErrSum)
	}
}

// getOracle is what Get says of bytes whose sum is right, read step by step.
func getOracle(b []byte) (api.Object, api.Errno) {
	var o api.Object
	if len(b) < 4 {
		return o, api.ErrShort
	}
	if string(b[:4]) != head {
		return o, api.ErrForm
	}
	r := octet.New(b[4:])
	n := int(r.Num(1))
	for i := 0; i < n && !r.Bad(); i++ {
		s := api.Symbol{Name: r.Text(255)}
		local := r.Num(1)
		if local > 1 {
			return api.Object{}, api.ErrForm
		}
		s.Local, s.Sort, s.Kind, s.Def = local == 1, int(r.Num(1)), int(r.Num(1)), int(r.Signed(1))
		o.Symbols = append(o.Symbols, s)
	}
	n = int(r.Num(1))
	for i := 0; i < n && !r.Bad(); i++ {
		f, e := fun.Get(r)
		if e != api.OK {
			return api.Object{}, e
		}
		o.Funcs = append(o.Funcs, f)
	}
	n = int(r.Num(1))
	for i := 0; i < n && !r.Bad(); i++ {
		d, e := data.Get(r)
		if e != api.OK {
			return api.Object{}, e
		}
		o.Datas = append(o.Datas, d)
	}
	if r.Bad() {
		return api.Object{}, api.ErrShort
	}
	if r.Left() > 0 {
		return api.Object{}, api.ErrLong
	}
	return o, api.OK
}

// P20.1, many bytes, near those of objects, and of any kind.
func TestMany(t *testing.T) {
	c := chance(51)
	whole := bytesOf(right())
	told := map[api.Errno]int{}
	for i := range 40000 {
		b := slices.Clone(whole)
		for range 1 + i%3 {
			at := c.next(len(b))
			switch c.next(4) {
			case 0:
				b[at] = byte(c.next(256))
			case 1:
				b[at] ^= 1 << c.next(8)
			case 2:
				b = slices.Delete(b, at, min(len(b), at+1+c.next(3)))
			default:
				b = slices.Insert(b, at, byte(c.next(4)))
			}
		}
		if i%20 == 0 {
			b = []byte(head)
			for range c.next(30) {
				b = append(b, byte(c.next(3)))
			}
		}
		want, why := getOracle(b)
		told[why]++
		kept := slices.Clone(b)
		gets(t, sum.Seal(b), want, why)
		if !bytes.Equal(b, kept) {
			t.Errorf("%q is changed to %q", kept, b)
		}
		if why == api.OK {
			puts(t, want, string(b)) // and what is got is put as it was
			continue
		}
		refuses(t, string(b), why)
	}
	for _, e := range []api.Errno{api.OK, api.ErrForm, api.ErrShort, api.ErrLong, api.ErrKind, api.ErrArg} {
		if told[e] < 50 {
			t.Errorf("%v is told %d times", e, told[e])
		}
	}
}

// wrongs are objects that have a form, and are not right, each with what object.Check tells.
func wrongs() []api.Object {
	var l []api.Object
	add := func(turn func(o *api.Object)) {
		o := right()
		turn(&o)
		l = append(l, o)
	}
	add(func(o *api.Object) { o.Symbols[0].Name = "" })
	add(func(o *api.Object) { o.Symbols[2].Name = strings.Repeat("a", 25) })
	add(func(o *api.Object) { o.Symbols[1].Name = "main" })
	add(func(o *api.Object) { o.Symbols[3].Sort = 3 })
	add(func(o *api.Object) { o.Symbols[5].Kind = 9 })
	add(func(o *api.Object) { o.Symbols[4].Def = 2 })
	add(func(o *api.Object) { o.Symbols[4].Def = -1 })
	add(func(o *api.Object) { o.Symbols[4].Local, o.Symbols[4].Def = false, -1 })
	add(func(o *api.Object) { o.Funcs[0].Class = 0 })
	add(func(o *api.Object) { o.Funcs[1].Code = nil })
	add(func(o *api.Object) { o.Funcs[0].To = 3 })
	add(func(o *api.Object) { o.Datas[1].Words[0] = 1 })
	add(func(o *api.Object) { o.Datas = append(o.Datas, api.Data{}) })
	add(func(o *api.Object) { o.Symbols = append(o.Symbols, make([]api.Symbol, 27)...) })
	add(func(o *api.Object) { o.Funcs = append(o.Funcs, make([]api.Func, 11)...) })
	add(func(o *api.Object) { o.Datas = append(o.Datas, make([]api.Data, 7)...) })
	return l
}

// P20.2: of an object that is not right, object.Check's error and number; no object, no bytes.
func TestRefused(t *testing.T) {
	places := map[int]bool{}
	for _, o := range wrongs() {
		why, place := object.Check(o)
		if why == api.OK {
			t.Errorf("%v is right", o)
		}
		places[place] = true
		if b, e, at := file.Write(o); e != why || at != place || len(b) != 0 {
			t.Errorf("Write(%v) = %q, %v, %d; want %v, %d", o, b, e, at, why, place)
		}
		b := file.Put(o)
		gets(t, b, o, api.OK)
		if x, e, at := file.Read(b); e != why || at != place || !isZero(x) {
			t.Errorf("Read of %v = %v, %v, %d; want %v, %d", o, x, e, at, why, place)
		}
	}
	if !places[-1] || !places[0] || !places[1] || len(places) < 5 {
		t.Errorf("places told: %v", places)
	}
	for _, c := range []struct {
		o     api.Object
		why   api.Errno
		place int
	}{
		{api.Object{Symbols: make([]api.Symbol, 33)}, api.ErrMany, -1}, {api.Object{Symbols: make([]api.Symbol, 32)}, api.ErrName, 0}, {api.Object{Funcs: make([]api.Func, 1)}, api.ErrNone, 0}, {api.Object{Datas: make([]api.Data, 300)}, api.ErrMany, -1},
		{api.Object{Symbols: []api.Symbol{{Name: "a", Sort: 1, Def: -1}, {Name: "b", Sort: 257, Def: -1}}}, api.ErrKind, 1},
	} {
		if b, e, at := file.Write(c.o); e != c.why || at != c.place || len(b) != 0 {
			t.Errorf("Write(%v) = %q, %v, %d; want %v, %d", c.o, b, e, at, c.why, c.place)
		}
	}
}

// some is an object that is right.
func (c *chance) some() api.Object {
	var o api.Object
	for i := range c.next(14) {
		s := api.Symbol{Name: fmt.Sprint(strings.Repeat("x", c.next(20)), "_", i), Sort: 1 + c.next(2), Kind: c.next(8), Def: -1}
		if c.next(3) > 0 {
			s.Local = c.next(2) == 0
			s.Def = c.item(&o, s)
		}
		if s.Def == -1 {
			s.Local = false
		}
		o.Symbols = append(o.Symbols, s)
	}
	return o
}

// item puts what s names into o; -1: there is no more room.
func (c *chance) item(o *api.Object, s api.Symbol) int {
	if s.Sort == api.SymFunc {
		if len(o.Funcs) == 12 {
			return -1
		}
		f := api.Func{Class: s.Kind, Kinds: []int{0, 0, 0, 8}, Pad: c.next(4097), Nosplit: c.next(2) == 0, Code: []api.Instr{{Op: api.OpSet, A: c.next(3), N: int64(c.next(1<<32)) - 1<<31}, last}, From: c.next(2), To: 1 + c.next(2)}
		f.Lines = []api.Line{{Line: c.next(65536)}, {At: 1}}[:c.next(3)]
		if len(o.Symbols) > 0 && o.Symbols[0].Sort == api.SymFunc {
			f.Kinds[3] = 1 + o.Symbols[0].Kind
			f.Code[0] = api.Instr{Op: api.OpFunc, A: 3}
			f.Relocs = []api.Reloc{{Wide: c.next(2) == 0}}
		}
		o.Funcs = append(o.Funcs, f)
		return len(o.Funcs) - 1
	}
	if len(o.Datas) == 8 {
		return -1
	}
	d := api.Data{Kind: s.Kind, Words: make([]int64, c.next(33))}
	for at := range d.Words {
		if s.Kind == api.Number {
			d.Words[at] = int64(c.next(1<<31)) * int64(c.next(1<<31)) * int64(c.next(3)-1)
		} else if len(o.Symbols) > 0 && o.Symbols[0].Sort == api.SymFunc && 1+o.Symbols[0].Kind == s.Kind {
			d.Relocs = append(d.Relocs, api.Reloc{At: at, Wide: c.next(2) == 0})
		}
	}
	o.Datas = append(o.Datas, d)
	return len(o.Datas) - 1
}

// P20.3: what was written is read as it was; what is read, written, is just those bytes.
func TestThereAndBack(t *testing.T) {
	c := chance(52)
	for range 5000 {
		o := c.some()
		b, e, at := file.Write(o)
		if e != api.OK || at != -1 || !bytes.Equal(b, file.Put(o)) || string(b) != string(sum.Seal(bytesOf(o))) {
			t.Errorf("Write(%v) = %q, %v, %d", o, b, e, at)
		}
		kept := slices.Clone(b)
		x, e, at := file.Read(b)
		if e != api.OK || at != -1 || !same(x, o) {
			t.Errorf("Read of %v = %v, %v, %d", o, x, e, at)
		}
		w, e, at := file.Write(x)
		if e != api.OK || at != -1 || !bytes.Equal(w, kept) || !bytes.Equal(b, kept) {
			t.Errorf("%q, read and written, is %q, %v, %d", kept, w, e, at)
		}
		// A byte that is another one is told.
		b[c.next(len(b))] += byte(1 + c.next(255))
		gets(t, b, api.Object{}, api.ErrSum)
	}
}

// P20.3: bytes of whatever kind that are read at all are those that are written of what is read.
func TestBytesBack(t *testing.T) {
	c := chance(53)
	read := 0
	for range 3000 {
		b := bytesOf(c.some())
		for range 1 + c.next(2) {
			b[4+c.next(len(b)-4)] ^= 1 << c.next(8)
		}
		sealed := sum.Seal(b)
		o, e, _ := file.Read(sealed)
		if e != api.OK {
			continue
		}
		read++
		if w, e, _ := file.Write(o); e != api.OK || !bytes.Equal(w, sealed) {
			t.Errorf("%q, read and written, is %q, %v", sealed, w, e)
		}
	}
	if read < 100 {
		t.Errorf("%d are read", read)
	}
}

// The greatest object that may be.
func TestGreatest(t *testing.T) {
	var o api.Object
	for i := range 32 {
		s := api.Symbol{Name: fmt.Sprintf("%s%02d", strings.Repeat("n", 22), i), Sort: api.SymFunc, Def: -1}
		if i < 12 {
			s.Def = i
			o.Funcs = append(o.Funcs, api.Func{Kinds: make([]int, 16), Pad: 4096, Code: slices.Repeat([]api.Instr{last}, 64), To: 64})
			for at := range 16 {
				o.Funcs[i].Lines = append(o.Funcs[i].Lines, api.Line{At: at, Line: 65535})
			}
		} else if i < 20 {
			s.Sort, s.Kind, s.Def = api.SymData, 1, i-12
			o.Datas = append(o.Datas, api.Data{Kind: 1, Words: make([]int64, 32)})
			for at := range 32 {
				o.Datas[i-12].Relocs = append(o.Datas[i-12].Relocs, api.Reloc{At: at, Sym: 31, Wide: true})
			}
		}
		o.Symbols = append(o.Symbols, s)
	}
	b, e, at := file.Write(o)
	if e != api.OK || at != -1 {
		t.Fatalf("Write = %v, %d", e, at)
	}
	if x, e, at := file.Read(b); e != api.OK || at != -1 || !same(x, o) {
		t.Errorf("Read = %v, %d", e, at)
	}
}

// The rules: no list handed in is changed, or kept; no answer shares memory with another.
func TestShares(t *testing.T) {
	o := right()
	first, second := file.Put(o), file.Put(o)
	want := string(second)
	clear(first[:cap(first)])
	if string(second) != want || !same(o, right()) {
		t.Error("Put: an answer shares memory")
	}
	b := slices.Concat(second, bytes.Repeat([]byte{9}, 30))
	in := b[:len(second):len(b)]
	x, _ := file.Get(in)
	y, _, _ := file.Read(in)
	spoil(x)
	if !same(y, right()) || string(in) != want {
		t.Error("Get: an answer shares memory")
	}
	clear(b)
	if !same(y, right()) {
		t.Error("Read: what is handed in is kept")
	}
	w, _, _ := file.Write(o)
	spoil(o)
	if string(w) != want {
		t.Error("Write: what is handed in is kept")
	}
}

// spoil writes over all of o, and over what stands behind its lists.
func spoil(o api.Object) {
	for _, f := range o.Funcs {
		clear(f.Kinds[:cap(f.Kinds)])
		clear(f.Lines[:cap(f.Lines)])
		clear(f.Code[:cap(f.Code)])
		clear(f.Relocs[:cap(f.Relocs)])
	}
	for _, d := range o.Datas {
		clear(d.Words[:cap(d.Words)])
		clear(d.Relocs[:cap(d.Relocs)])
	}
	clear(o.Symbols[:cap(o.Symbols)])
	clear(o.Funcs[:cap(o.Funcs)])
	clear(o.Datas[:cap(o.Datas)])
}

// P7: each call ends at all arguments, and answers alike when it is asked again.
func TestEnds(t *testing.T) {
	c := chance(54)
	pick := func() int { return numbers()[c.next(len(numbers()))] }
	for i := range 5000 {
		var o api.Object
		for range c.next(8) {
			o.Symbols = append(o.Symbols, api.Symbol{Name: strings.Repeat("\xff", c.next(300)), Local: c.next(2) == 0, Sort: pick(), Kind: pick(), Def: pick()})
		}
		for range c.next(4) {
			o.Funcs = append(o.Funcs, api.Func{Class: pick(), Kinds: []int{pick()}, Pad: pick(), From: pick(), To: pick(), Lines: []api.Line{{At: pick(), Line: pick()}}, Code: []api.Instr{{Op: pick(), A: pick(), B: pick(), C: pick(), N: int64(pick())}}, Relocs: []api.Reloc{{At: pick(), Sym: pick()}}})
		}
		for range c.next(4) {
			o.Datas = append(o.Datas, api.Data{Kind: pick(), Words: []int64{int64(pick())}, Relocs: []api.Reloc{{At: pick(), Sym: pick()}}})
		}
		b := file.Put(o)
		puts(t, o, string(bytesOf(o)))
		why, place := object.Check(o)
		if w, e, at := file.Write(o); e != why || at != place || (e == api.OK) != (len(w) > 0) {
			t.Errorf("Write(%v) = %q, %v, %d; want %v, %d", o, w, e, at, why, place)
		}
		want, why := getOracle(bytesOf(o))
		gets(t, b, want, why)
		wild := make([]byte, i%60)
		for at := range wild {
			wild[at] = byte(c.next(256))
		}
		if _, e := file.Get(wild); e == api.OK {
			t.Errorf("Get(%q)", wild)
		}
		want, why = getOracle(wild)
		gets(t, sum.Seal(wild), want, why)
	}
}

// P7: much is put, and refused, in time.
func TestMuch(t *testing.T) {
	const n = 200000
	o := api.Object{Symbols: make([]api.Symbol, n), Funcs: make([]api.Func, n), Datas: make([]api.Data, n)}
	b := file.Put(o)
	if len(b) != 11+18*n {
		t.Errorf("%d bytes", len(b))
	}
	if _, e, at := file.Write(o); e != api.ErrMany || at != -1 {
		t.Errorf("Write = %v, %d", e, at)
	}
	if o, e := file.Get(b); e == api.OK || !isZero(o) {
		t.Errorf("Get = %v", e)
	}
	if o, e, at := file.Read(make([]byte, 50*n)); e != api.ErrSum || at != -1 || !isZero(o) {
		t.Errorf("Read = %v, %d", e, at)
	}
}
