package data_test

import (
	"bytes"
	"fmt"
	"math"
	"slices"
	"strings"
	"testing"

	"sheerleg/api"
	"sheerleg/data"
	"sheerleg/octet"
)

const (
	most  = 4096
	kinds = 9
)

// chance gives numbers that look as if they hung on nothing, always the same ones.
type chance uint64

func (c *chance) next(n int) int {
	*c = *c*6364136223846793005 + 1442695040888963407
	return int(*c >> 33 % chance(n))
}

// numbers are those that any call may be given.
func numbers() []int {
	return []int{math.MinInt, math.MinInt + 1, -1 << 32, -4097, -256, -2, -1, 0, 1, 2, 3, 8, 9, 31, 32, 33, 255, 256, 257, 4095, 4096, 4097, 65535, 65536, 1 << 31, 1 << 32, 1<<32 + 1, math.MaxInt - 1, math.MaxInt}
}

// noKinds are numbers of no kind; some have the lowest bits of one.
func noKinds() []int {
	return []int{math.MinInt, math.MinInt + 1, -1 << 32, -1<<32 + 3, -256, -9, -8, -2, -1, 9, 10, 11, 15, 16, 255, 256, 257, 264, 65536, 1 << 32, 1<<32 + 4, math.MaxInt - 1, math.MaxInt}
}

// ref is a reference.
func ref(at, sym int) api.Reloc {
	return api.Reloc{At: at, Sym: sym}
}

// wide is one by a wide address.
func wide(at, sym int) api.Reloc {
	return api.Reloc{At: at, Sym: sym, Wide: true}
}

// refs is a list of references, as a word.
func refs(l ...api.Reloc) []api.Reloc {
	return l
}

// words are so many zeros.
func words(n int) []int64 {
	return make([]int64, n)
}

// symbols are a function of each class, at its place; from 8 on data of each kind; and then what is neither.
func symbols() []api.Symbol {
	var l []api.Symbol
	for class := range 8 {
		l = append(l, api.Symbol{Name: fmt.Sprint("f", class), Sort: api.SymFunc, Kind: class, Def: class})
	}
	for kind := range kinds {
		l = append(l, api.Symbol{Name: fmt.Sprint("d", kind), Sort: api.SymData, Kind: kind, Def: -1})
	}
	for _, sort := range []int{math.MinInt, -1, 0, 3, 257, 1<<32 + 1, math.MaxInt} {
		l = append(l, api.Symbol{Sort: sort, Kind: 3})
	}
	for _, kind := range []int{math.MinInt, -5, -1, 8, 256 + 3, 1<<32 + 3, math.MaxInt} {
		l = append(l, api.Symbol{Sort: api.SymFunc, Kind: kind})
	}
	return l
}

// same tells whether two data are alike, of whatever kind their empty lists are.
func same(a, b api.Data) bool {
	return a.Kind == b.Kind && slices.Equal(a.Words, b.Words) && slices.Equal(a.Relocs, b.Relocs)
}

// copied are data that share nothing with d.
func copied(d api.Data) api.Data {
	return api.Data{Kind: d.Kind, Words: slices.Clone(d.Words), Relocs: slices.Clone(d.Relocs)}
}

// wants holds Check against an error.
func wants(t *testing.T, d api.Data, l []api.Symbol, want api.Errno) {
	t.Helper()
	if e := data.Check(d, l); e != want {
		t.Errorf("Check(%v) = %v; want %v", d, e, want)
	}
}

// wrongLists are lists of references that may not be, wherever.
func wrongLists() [][]api.Reloc {
	return [][]api.Reloc{nil, refs(ref(-1, 0)), refs(ref(0, -1)), refs(ref(0, 8)), refs(ref(0, 0), ref(0, 0)), refs(ref(math.MaxInt, math.MinInt)), make([]api.Reloc, 300)}
}

// P15.1, kinds that there are, and others: that is told ahead of all else.
func TestCheckKind(t *testing.T) {
	for kind := range kinds {
		for n := range 33 {
			wants(t, api.Data{Kind: kind, Words: words(n)}, nil, api.OK)
			wants(t, api.Data{Kind: kind, Words: words(n), Relocs: refs()}, symbols(), api.OK)
		}
	}
	wants(t, api.Data{}, nil, api.OK)
	wants(t, api.Data{Words: []int64{1, math.MinInt64, math.MaxInt64, 0}}, nil, api.OK)
	for _, kind := range noKinds() {
		for _, l := range wrongLists() {
			for _, w := range [][]int64{nil, {0}, {1}, {0, 7}, words(32), words(33), slices.Repeat([]int64{7}, 40)} {
				wants(t, api.Data{Kind: kind, Words: w, Relocs: l}, symbols(), api.ErrKind)
				wants(t, api.Data{Kind: kind, Words: w, Relocs: l}, nil, api.ErrKind)
			}
		}
		wants(t, api.Data{Kind: kind, Words: words(1), Relocs: refs(ref(0, 3))}, symbols(), api.ErrKind)
	}
}

// P15.1, as many words as there may be, and more.
func TestCheckLong(t *testing.T) {
	for kind := range kinds {
		for _, n := range []int{33, 34, 64, 255, 256, 257, 288, 65536, 70000} {
			for _, l := range wrongLists() {
				wants(t, api.Data{Kind: kind, Words: words(n), Relocs: l}, symbols(), api.ErrLong)
			}
			w := words(n)
			w[0], w[n-1] = 7, -7
			wants(t, api.Data{Kind: kind, Words: w}, symbols(), api.ErrLong)
			wants(t, api.Data{Kind: kind, Words: w, Relocs: refs(ref(0, 8))}, symbols(), api.ErrLong)
		}
	}
	wants(t, api.Data{Words: slices.Repeat([]int64{-7}, 32)}, nil, api.OK)
}

// P15.1, a word of functions that is not 0, wherever it is: ahead of what is wrong of references.
func TestCheckArg(t *testing.T) {
	for kind := 1; kind < kinds; kind++ {
		for n := 1; n <= 32; n++ {
			for _, word := range []int64{math.MinInt64, -1 << 32, -256, -1, 1, 2, 255, 256, 1 << 8, 1 << 16, 1 << 32, 1 << 62, math.MaxInt64} {
				w := words(n)
				w[(n+kind)*int(word&7)%n] = word
				wants(t, api.Data{Kind: kind, Words: w}, symbols(), api.ErrArg)
			}
		}
		for at := range 32 {
			w := words(32)
			w[at] = 1
			for _, l := range wrongLists() {
				wants(t, api.Data{Kind: kind, Words: w, Relocs: l}, symbols(), api.ErrArg)
			}
			wants(t, api.Data{Kind: kind, Words: w, Relocs: refs(ref(at, kind-1))}, symbols(), api.ErrArg)
		}
	}
}

// P15.1, numbers with references, whatever these are.
func TestCheckNumbers(t *testing.T) {
	for _, n := range []int{0, 1, 2, 32} {
		for sym := -1; sym <= len(symbols()); sym++ {
			wants(t, api.Data{Words: words(n), Relocs: refs(ref(0, sym))}, symbols(), api.ErrReloc)
			wants(t, api.Data{Words: words(n), Relocs: refs(wide(0, sym), wide(1, sym))}, symbols(), api.ErrReloc)
		}
		for _, l := range wrongLists()[1:] {
			wants(t, api.Data{Words: words(n), Relocs: l}, symbols(), api.ErrReloc)
			wants(t, api.Data{Words: words(n), Relocs: l}, nil, api.ErrReloc)
		}
	}
}

// P15.1, references written out, of functions of class 3; there are 3 words.
func TestCheckReferences(t *testing.T) {
	const (
		yes   = 3
		other = 2 // a function of another class
		dat   = 12
	)
	for _, c := range []struct {
		l    []api.Reloc
		want api.Errno
	}{
		{refs(ref(0, yes)), api.OK}, {refs(wide(1, yes)), api.OK}, {refs(ref(2, yes)), api.OK}, {refs(ref(0, yes), wide(2, yes)), api.OK}, {refs(wide(0, yes), ref(1, yes), wide(2, yes)), api.OK},
		// An At that is no word's place.
		{refs(ref(-1, yes)), api.ErrReloc}, {refs(ref(3, yes)), api.ErrReloc}, {refs(ref(4, yes)), api.ErrReloc}, {refs(ref(math.MinInt, yes)), api.ErrReloc}, {refs(ref(math.MaxInt, yes)), api.ErrReloc}, {refs(ref(1<<32, yes)), api.ErrReloc}, {refs(ref(256, yes)), api.ErrReloc},
		{refs(ref(0, yes), ref(3, yes)), api.ErrReloc}, {refs(ref(0, yes), ref(1, yes), ref(2, yes), ref(3, yes)), api.ErrReloc}, {refs(ref(-1, yes), ref(0, yes)), api.ErrReloc},
		// Alike, and falling.
		{refs(ref(0, yes), ref(0, yes)), api.ErrReloc}, {refs(ref(2, yes), wide(2, yes)), api.ErrReloc}, {refs(ref(1, yes), ref(0, yes)), api.ErrReloc}, {refs(ref(0, yes), ref(2, yes), ref(1, yes)), api.ErrReloc}, {refs(ref(0, yes), ref(1, yes), ref(1, yes)), api.ErrReloc}, {refs(ref(0, yes), ref(1, yes), ref(-1, yes)), api.ErrReloc},
		// A Sym that is no symbol's place.
		{refs(ref(0, -1)), api.ErrReloc}, {refs(ref(0, len(symbols()))), api.ErrReloc}, {refs(ref(0, math.MinInt)), api.ErrReloc}, {refs(ref(0, math.MaxInt)), api.ErrReloc}, {refs(ref(0, 1<<32+yes)), api.ErrReloc}, {refs(ref(0, 256+yes)), api.ErrReloc}, {refs(ref(0, yes), ref(1, yes), ref(2, -1)), api.ErrReloc},
		// A symbol that is not as told.
		{refs(ref(0, other)), api.ErrKind}, {refs(wide(2, other)), api.ErrKind}, {refs(ref(1, yes+1)), api.ErrKind}, {refs(ref(1, 0)), api.ErrKind}, {refs(ref(1, dat)), api.ErrKind}, {refs(ref(1, 8+yes)), api.ErrKind}, {refs(ref(0, yes), ref(1, other)), api.ErrKind}, {refs(ref(0, yes), ref(1, yes), ref(2, dat)), api.ErrKind}, {refs(ref(0, len(symbols())-1)), api.ErrKind},
		// One that is wrong in two ways.
		{refs(ref(-1, other)), api.ErrReloc}, {refs(ref(3, dat)), api.ErrReloc}, {refs(ref(0, yes), ref(0, other)), api.ErrReloc}, {refs(ref(1, yes), ref(0, dat)), api.ErrReloc}, {refs(ref(3, -1)), api.ErrReloc},
		// Two that are wrong: the first one's.
		{refs(ref(0, other), ref(0, yes)), api.ErrKind}, {refs(ref(0, other), ref(3, yes)), api.ErrKind}, {refs(ref(0, other), ref(1, -1)), api.ErrKind}, {refs(ref(0, dat), ref(-1, -1)), api.ErrKind}, {refs(ref(2, other), ref(1, other)), api.ErrKind}, {refs(ref(0, other), ref(1, yes), ref(1, yes)), api.ErrKind}, {refs(ref(0, yes), ref(1, dat), ref(9, 99)), api.ErrKind},
		{refs(ref(0, -1), ref(1, other)), api.ErrReloc}, {refs(ref(3, yes), ref(1, other)), api.ErrReloc}, {refs(ref(-1, other), ref(1, other)), api.ErrReloc}, {refs(ref(0, yes), ref(0, yes), ref(1, other)), api.ErrReloc},
	} {
		for _, behind := range [][]api.Reloc{nil, refs(ref(-1, yes)), refs(ref(2, other))} {
			if c.want == api.OK && behind != nil {
				continue
			}
			wants(t, api.Data{Kind: 1 + yes, Words: words(3), Relocs: slices.Concat(c.l, behind)}, symbols(), c.want)
		}
	}
	for n := range 33 {
		wants(t, api.Data{Kind: 4, Words: words(n), Relocs: refs(ref(n, yes))}, symbols(), api.ErrReloc)
		if n > 0 {
			wants(t, api.Data{Kind: 4, Words: words(n), Relocs: refs(ref(n-1, yes))}, symbols(), api.OK)
		}
	}
	wants(t, api.Data{Kind: 4, Words: words(3), Relocs: refs(ref(0, 0))}, nil, api.ErrReloc)
	wants(t, api.Data{Kind: 4, Words: words(3), Relocs: refs(ref(0, yes))}, symbols()[:yes], api.ErrReloc)
	wants(t, api.Data{Kind: 4, Words: words(3), Relocs: refs(ref(0, yes))}, symbols()[:yes+1], api.OK)
}

// P15.1, each kind, and each symbol: one alone is of its class.
func TestCheckSymbol(t *testing.T) {
	l := symbols()
	for kind := 1; kind < kinds; kind++ {
		for sym := range l {
			want := api.ErrKind
			if sym == kind-1 {
				want = api.OK
			}
			wants(t, api.Data{Kind: kind, Words: words(2), Relocs: refs(ref(0, sym))}, l, want)
			wants(t, api.Data{Kind: kind, Words: words(2), Relocs: refs(ref(0, kind-1), wide(1, sym))}, l, want)
		}
		var all []api.Reloc
		for at := range 32 {
			all = append(all, api.Reloc{At: at, Sym: kind - 1, Wide: at%2 == 0})
		}
		wants(t, api.Data{Kind: kind, Words: words(32), Relocs: all}, l, api.OK)
		wants(t, api.Data{Kind: kind, Words: words(31), Relocs: all}, l, api.ErrReloc)
		wants(t, api.Data{Kind: kind, Words: words(32), Relocs: append(all, ref(32, kind-1))}, l, api.ErrReloc)
	}
	// A symbol's other fields don't count.
	odd := []api.Symbol{{Name: "?", Local: true, Sort: api.SymFunc, Kind: 3, Def: math.MinInt}}
	wants(t, api.Data{Kind: 4, Words: words(1), Relocs: refs(ref(0, 0))}, odd, api.OK)
}

// checkOracle is what Check says, its words gone through one by one.
func checkOracle(d api.Data, l []api.Symbol) api.Errno {
	if d.Kind < 0 || d.Kind > 8 {
		return api.ErrKind
	}
	if len(d.Words) > 32 {
		return api.ErrLong
	}
	for _, w := range d.Words {
		if d.Kind > 0 && w != 0 {
			return api.ErrArg
		}
	}
	ahead := math.MinInt
	for _, x := range d.Relocs {
		if d.Kind == 0 || x.At < 0 || x.At >= len(d.Words) || x.At <= ahead || x.Sym < 0 || x.Sym >= len(l) {
			return api.ErrReloc
		}
		if s := l[x.Sym]; s.Sort != 1 || s.Kind != d.Kind-1 {
			return api.ErrKind
		}
		ahead = x.At
	}
	return api.OK
}

// P15.1, all lists of up to three references, of few places and symbols.
func TestCheckAll(t *testing.T) {
	l := []api.Symbol{{Sort: api.SymFunc, Kind: 4}, {Sort: api.SymFunc, Kind: 5}, {Sort: api.SymData, Kind: 4}}
	var longer func(d api.Data)
	longer = func(d api.Data) {
		if got, want := data.Check(d, l), checkOracle(d, l); got != want {
			t.Errorf("Check(%v) = %v; want %v", d, got, want)
		}
		if len(d.Relocs) == 3 {
			return
		}
		for at := -1; at <= 2; at++ {
			for sym := -1; sym <= 3; sym++ {
				next := copied(d)
				next.Relocs = append(next.Relocs, ref(at, sym))
				longer(next)
			}
		}
	}
	for _, kind := range []int{0, 5, 6} {
		longer(api.Data{Kind: kind, Words: words(2)})
	}
}

// some are data that mostly may be, nearly.
func (c *chance) some(l []api.Symbol) api.Data {
	d := api.Data{Kind: c.next(10), Words: words(c.next(34))}
	if d.Kind == 0 || c.next(12) == 0 {
		for i := range d.Words {
			d.Words[i] = int64(numbers()[c.next(len(numbers()))])
		}
	}
	for at := range d.Words {
		if d.Kind > 0 && c.next(3) == 0 {
			d.Relocs = append(d.Relocs, api.Reloc{At: at, Sym: d.Kind - 1, Wide: c.next(2) == 0})
		}
	}
	for range c.next(3) {
		if n := len(d.Relocs); n > 0 {
			x := &d.Relocs[c.next(n)]
			switch c.next(4) {
			case 0:
				x.At += c.next(5) - 2
			case 1:
				x.Sym = c.next(len(l)+2) - 1
			case 2:
				x.At = numbers()[c.next(len(numbers()))]
			case 3:
				x.Sym = numbers()[c.next(len(numbers()))]
			}
		}
	}
	return d
}

// P15.1, much data.
func TestCheckMany(t *testing.T) {
	c, l := chance(15), symbols()
	told := map[api.Errno]int{}
	for range 60000 {
		d := c.some(l)
		want := checkOracle(d, l)
		told[want]++
		wants(t, d, l, want)
	}
	for _, e := range []api.Errno{api.OK, api.ErrKind, api.ErrLong, api.ErrArg, api.ErrReloc} {
		if told[e] < 300 {
			t.Errorf("%v was asked for %d times", e, told[e])
		}
	}
}

// written is d's bytes, as the document has them.
func written(d api.Data) string {
	b := []byte{byte(d.Kind), byte(len(d.Words))}
	for _, w := range d.Words {
		n := uint64(w)
		b = append(b, byte(n>>56), byte(n>>48), byte(n>>40), byte(n>>32), byte(n>>24), byte(n>>16), byte(n>>8), byte(n))
	}
	b = append(b, byte(len(d.Relocs)))
	for _, x := range d.Relocs {
		b = append(b, byte(x.At), byte(x.Sym), 0)
		if x.Wide {
			b[len(b)-1] = 1
		}
	}
	return string(b)
}

const zeros = "\x00\x00\x00\x00\x00\x00\x00\x00"

// P15.2, bytes written out.
func TestPut(t *testing.T) {
	for _, c := range []struct {
		b    string
		d    api.Data
		want string
	}{
		{"", api.Data{}, "\x00\x00\x00"},
		{"abc", api.Data{Words: []int64{}, Relocs: refs()}, "abc\x00\x00\x00"},
		{"", api.Data{Words: []int64{1, 2}}, "\x00\x02" + "\x00\x00\x00\x00\x00\x00\x00\x01" + "\x00\x00\x00\x00\x00\x00\x00\x02" + "\x00"},
		{"\x09", api.Data{Words: []int64{0x0102030405060708, -2, math.MinInt64}}, "\x09\x00\x03" + "\x01\x02\x03\x04\x05\x06\x07\x08" + "\xff\xff\xff\xff\xff\xff\xff\xfe" + "\x80\x00\x00\x00\x00\x00\x00\x00" + "\x00"},
		{"", api.Data{Kind: 8}, "\x08\x00\x00"},
		{"", api.Data{Kind: 4, Words: words(2), Relocs: refs(ref(0, 3), wide(1, 31))}, "\x04\x02" + zeros + zeros + "\x02" + "\x00\x03\x00" + "\x01\x1f\x01"},
		{"ab", api.Data{Kind: 1, Words: words(1), Relocs: refs(wide(0, 9))}, "ab\x01\x01" + zeros + "\x01" + "\x00\x09\x01"},
		// What may not be is put, too: the lowest bits of it.
		{"", api.Data{Kind: 258, Relocs: refs(ref(257, -1), wide(math.MinInt+5, 1<<32+6), ref(-2, math.MaxInt))}, "\x02\x00\x03" + "\x01\xff\x00" + "\x05\x06\x01" + "\xfe\xff\x00"},
		{"", api.Data{Kind: -1, Words: []int64{7}, Relocs: refs(ref(0, 0), ref(0, 0))}, "\xff\x01" + "\x00\x00\x00\x00\x00\x00\x00\x07" + "\x02" + "\x00\x00\x00" + "\x00\x00\x00"},
	} {
		if got := string(data.Put([]byte(c.b), c.d)); got != c.want {
			t.Errorf("Put(%q, %v) = %q; want %q", c.b, c.d, got, c.want)
		}
	}
	if got := data.Put(nil, api.Data{}); string(got) != "\x00\x00\x00" {
		t.Errorf("behind nothing: %q", got)
	}
}

// P15.2, more than one byte can count: its lowest bits are put, and all of the rest.
func TestPutMany(t *testing.T) {
	for _, n := range []int{32, 33, 255, 256, 257, 300, 65536, 70000} {
		d := api.Data{Kind: 3, Words: words(n), Relocs: make([]api.Reloc, n+1)}
		for i := range n {
			d.Words[i] = int64(i) * 77777777777
			d.Relocs[i] = api.Reloc{At: i, Sym: n - i, Wide: i%3 == 0}
		}
		if got := string(data.Put([]byte("x"), d)); got != "x"+written(d) {
			t.Errorf("of %d words and a reference more: %d bytes", n, len(got))
		}
	}
}

// got holds what Get answers of r.
func got(t *testing.T, what string, r *octet.Reader, want api.Data, why api.Errno) {
	t.Helper()
	d, e := data.Get(r)
	if !same(d, want) || e != why {
		t.Errorf("%s: Get = %v, %v; want %v, %v", what, d, e, want, why)
	}
}

// P15.2, data written out, with bytes ahead and behind.
func TestGet(t *testing.T) {
	for _, c := range []struct {
		b    string
		want api.Data
	}{
		{"\x00\x00\x00", api.Data{}},
		{"\x08\x00\x00", api.Data{Kind: 8}},
		{"\x00\x02" + "\x00\x00\x00\x00\x00\x00\x00\x01" + "\x00\x00\x00\x00\x00\x00\x00\x02" + "\x00", api.Data{Words: []int64{1, 2}}},
		{"\x00\x03" + "\x01\x02\x03\x04\x05\x06\x07\x08" + "\xff\xff\xff\xff\xff\xff\xff\xfe" + "\x80\x00\x00\x00\x00\x00\x00\x00" + "\x00", api.Data{Words: []int64{0x0102030405060708, -2, math.MinInt64}}},
		{"\x04\x02" + zeros + zeros + "\x02" + "\x00\x03\x00" + "\x01\x1f\x01", api.Data{Kind: 4, Words: words(2), Relocs: refs(ref(0, 3), wide(1, 31))}},
		// What may not be is got, too; numbers are from 0 on.
		{"\xff\x00\x02" + "\xff\x80\x01" + "\x80\xff\x00", api.Data{Kind: 255, Relocs: refs(wide(255, 128), ref(128, 255))}},
		{"\x09\x01" + "\x00\x00\x00\x00\x00\x00\x00\x07" + "\x02" + "\x05\x00\x00" + "\x05\x00\x00", api.Data{Kind: 9, Words: []int64{7}, Relocs: refs(ref(5, 0), ref(5, 0))}},
	} {
		for _, behind := range []string{"", "\x00", "\x02", "\x00\x01\x02"} {
			r := octet.New([]byte("\x09" + c.b + behind))
			r.Num(1)
			got(t, fmt.Sprintf("%q", c.b), r, c.want, api.OK)
			if r.At() != 1+len(c.b) || r.Left() != len(behind) || r.Bad() {
				t.Errorf("behind %q: at, left, bad are %d, %d, %v", c.b, r.At(), r.Left(), r.Bad())
			}
		}
	}
	r := octet.New([]byte("\x00\x00\x00" + written(api.Data{Kind: 2, Words: words(1)}) + "\x05\x00\x00"))
	got(t, "first", r, api.Data{}, api.OK)
	got(t, "second", r, api.Data{Kind: 2, Words: words(1)}, api.OK)
	got(t, "third", r, api.Data{Kind: 5}, api.OK)
	got(t, "behind the end", r, api.Data{}, api.ErrShort)
}

// P15.2, more than data may have are got: Check alone refuses them.
func TestGetMany(t *testing.T) {
	for _, n := range []int{32, 33, 127, 128, 254, 255} {
		d := api.Data{Kind: n, Words: words(n), Relocs: make([]api.Reloc, n)}
		for i := range n {
			d.Words[i] = int64(n-2*i) << (i % 50)
			d.Relocs[i] = api.Reloc{At: n - i, Sym: i, Wide: i%2 == 0}
		}
		b := written(d)
		got(t, fmt.Sprintf("%d words", n), octet.New([]byte(b)), d, api.OK)
		got(t, "a byte less", octet.New([]byte(b[:len(b)-1])), api.Data{}, api.ErrShort)
		got(t, "the last byte", octet.New([]byte(b[:len(b)-1]+"\x02")), api.Data{}, api.ErrForm)
	}
}

// P15.2, bytes lack, at each place.
func TestGetShort(t *testing.T) {
	for n := range 4 {
		for m := range 4 {
			d := api.Data{Kind: 4, Words: []int64{-1, 258, 1 << 40}[:n], Relocs: refs(wide(0, 3), ref(1, 255), wide(2, 2))[:m]}
			b := []byte(written(d))
			for has := range len(b) {
				got(t, fmt.Sprintf("%d of %d bytes", has, len(b)), octet.New(b[:has]), api.Data{}, api.ErrShort)
			}
			got(t, "all bytes", octet.New(b), d, api.OK)
		}
	}
	for _, b := range []string{"\x00\xff", "\x00\xff" + strings.Repeat(zeros, 254), "\x00\xff" + strings.Repeat(zeros, 255), "\x00\x00\xff", "\x00\x00\xff" + strings.Repeat("\x00\x00\x00", 254), "\x00\x01" + zeros[:7], "\x00\x01" + zeros + "\x01\x00\x00"} {
		got(t, fmt.Sprintf("%d bytes", len(b)), octet.New([]byte(b)), api.Data{}, api.ErrShort)
	}
}

// P15.2, a last byte that is neither 0 nor 1, alone, beside others, and beside bytes that lack.
func TestGetForm(t *testing.T) {
	const ahead, good = "\x04\x01" + zeros, "\x00\x03\x01"
	for last := 2; last < 256; last++ {
		bad := "\x00\x03" + string([]byte{byte(last)})
		for _, c := range []struct {
			what, b string
			want    api.Errno
		}{
			{"alone", "\x01" + bad, api.ErrForm},
			{"first", "\x03" + bad + good + good, api.ErrForm},
			{"second", "\x03" + good + bad + good, api.ErrForm},
			{"last", "\x03" + good + good + bad, api.ErrForm},
			{"all", "\x03" + bad + bad + bad, api.ErrForm},
			{"bytes lack behind it", "\x02" + bad + good[:2], api.ErrForm},
			{"all bytes lack behind it", "\x02" + bad, api.ErrForm},
			{"bytes lack behind the next one", "\x03" + bad + good, api.ErrForm},
			{"bytes lack, where it would be", "\x02" + good + bad[:2], api.ErrShort},
			{"it is a place", "\x01" + bad[2:] + "\x03\x00", api.OK},
			{"it is behind all", "\x01" + good + bad, api.OK},
			{"it is behind none", "\x00" + bad, api.OK},
		} {
			want := api.Data{}
			if c.want == api.OK {
				want = api.Data{Kind: 4, Words: words(1)}
				for i := range int(c.b[0]) {
					want.Relocs = append(want.Relocs, api.Reloc{At: int(c.b[1+3*i]), Sym: 3, Wide: c.b[3+3*i] == 1})
				}
			}
			got(t, fmt.Sprintf("%d, %s", last, c.what), octet.New([]byte(ahead+c.b)), want, c.want)
		}
	}
}

// P15.2 and P7, readers that are nobody's, bad, or at their end.
func TestGetNobody(t *testing.T) {
	for _, r := range []*octet.Reader{nil, {}, new(octet.Reader), octet.New(nil), octet.New([]byte{}), octet.New([]byte{0}), octet.New([]byte{0, 0})} {
		for range 2 {
			got(t, "nobody's, or at its end", r, api.Data{}, api.ErrShort)
			if !r.Bad() {
				t.Error("a reader that lacks bytes is not bad")
			}
		}
	}
	for _, spoil := range []func(r *octet.Reader){func(r *octet.Reader) { r.Num(0) }, func(r *octet.Reader) { r.Signed(9) }, func(r *octet.Reader) { r.Text(-1) }} {
		r := octet.New([]byte("\x00\x00\x00\x00"))
		spoil(r)
		got(t, "bad", r, api.Data{}, api.ErrShort)
		if r.At() != 0 || r.Left() != 4 {
			t.Error("a bad reader reads")
		}
	}
}

// P15.4: what may be is got as it was put; and what is got is put as it was.
func TestThereAndBack(t *testing.T) {
	c, l := chance(16), symbols()
	for may := 0; may < 3000; {
		d := c.some(l)
		if data.Check(d, l) != api.OK {
			continue
		}
		may++
		ahead := strings.Repeat("\x07", may%3)
		b := data.Put([]byte(ahead), d)
		if string(b) != ahead+written(d) {
			t.Fatalf("%v is put as %q", d, b)
		}
		r := octet.New(b)
		for range len(ahead) {
			r.Num(1)
		}
		back, e := data.Get(r)
		if !same(back, d) || e != api.OK || r.Left() != 0 {
			t.Fatalf("%v is got as %v, %v; %d bytes are left", d, back, e, r.Left())
		}
		if again := data.Put([]byte(ahead), back); !bytes.Equal(again, b) {
			t.Fatalf("%q is put as %q", b, again)
		}
	}
}

// P15.3, written out.
func TestMarks(t *testing.T) {
	for _, c := range []struct {
		l    []api.Reloc
		n    int
		want []int
	}{
		{nil, 0, nil}, {nil, 1, []int{-1}}, {refs(), 3, []int{-1, -1, -1}}, {nil, -1, nil}, {nil, math.MinInt, nil},
		{refs(ref(0, 9)), 0, nil}, {refs(ref(0, 9)), -1, nil}, {refs(ref(-1, 9)), -1, nil}, {refs(ref(0, 9)), 1, []int{0}}, {refs(wide(0, -9)), 2, []int{0, -1}},
		{refs(ref(0, 5), ref(2, 5)), 4, []int{0, -1, 1, -1}}, {refs(ref(2, 5), ref(0, 5)), 4, []int{1, -1, 0, -1}},
		// Two, and three, at one place.
		{refs(ref(1, 5), wide(1, 6)), 3, []int{-1, 0, -1}}, {refs(ref(0, 5), ref(1, 6), ref(1, 7), ref(0, 8)), 2, []int{0, 1}}, {refs(ref(2, 1), ref(2, 1), ref(2, 1), ref(0, 1)), 3, []int{3, -1, 0}},
		// At what is no place.
		{refs(ref(-1, 5), ref(3, 5), ref(math.MinInt, 5), ref(math.MaxInt, 5), ref(1<<32, 5), ref(1, 5)), 3, []int{-1, 5, -1}},
		{refs(ref(2, 5), ref(3, 5), ref(4, 5)), 3, []int{-1, -1, 0}}, {refs(ref(2, 5), ref(3, 5), ref(4, 5)), 4, []int{-1, -1, 0, 1}},
	} {
		if got := data.Marks(c.l, c.n); !slices.Equal(got, c.want) {
			t.Errorf("Marks(%v, %d) = %v; want %v", c.l, c.n, got, c.want)
		}
	}
}

// first is the place in l of the first reference at a place; -1: there is none.
func first(l []api.Reloc, place int) int {
	return slices.IndexFunc(l, func(x api.Reloc) bool { return x.At == place })
}

// P15.3, how many places are told.
func TestMarksPlaces(t *testing.T) {
	lists := [][]api.Reloc{nil, refs(ref(0, 1), ref(4095, 2), ref(4096, 3), ref(4097, 4)), refs(ref(4096, 3), ref(4095, 2), ref(1, 1), ref(4095, 3)), refs(ref(-1, 1), ref(math.MaxInt-1, 2), ref(math.MaxInt, 3))}
	for _, l := range lists {
		for _, n := range append(numbers(), 4094, 4098, 5000) {
			got := data.Marks(l, n)
			if want := max(0, min(n, most)); len(got) != want {
				t.Errorf("Marks(%v, %d) are %d; want %d", l, n, len(got), want)
				continue
			}
			for place, i := range got {
				if want := first(l, place); i != want {
					t.Errorf("Marks(%v, %d) at %d = %d; want %d", l, n, place, i, want)
				}
			}
		}
	}
}

// P15.3, written out.
func TestRefs(t *testing.T) {
	for _, c := range []struct {
		n    int
		l    []api.Reloc
		want []int
	}{
		{0, nil, nil}, {1, nil, []int{-1}}, {3, refs(), []int{-1, -1, -1}}, {0, refs(ref(0, 5)), nil},
		{1, refs(ref(0, 5)), []int{5}}, {3, refs(wide(1, 5)), []int{-1, 5, -1}}, {3, refs(ref(0, 0), ref(1, 7), ref(2, 31)), []int{0, 7, 31}}, {3, refs(ref(2, 7), ref(0, 9)), []int{9, -1, 7}},
		// Two at one word: the first one.
		{2, refs(ref(0, 5), ref(0, 6)), []int{5, -1}}, {2, refs(ref(1, 6), wide(1, 5), ref(1, 4)), []int{-1, 6}}, {2, refs(ref(1, 6), ref(0, 5), ref(1, 4), ref(0, 3)), []int{5, 6}},
		// At what is no word; and to what is no symbol.
		{2, refs(ref(-1, 5), ref(2, 6), ref(math.MaxInt, 7), ref(math.MinInt, 8)), []int{-1, -1}}, {3, refs(ref(0, -1), ref(1, math.MinInt), ref(2, math.MaxInt)), []int{-1, math.MinInt, math.MaxInt}}, {1, refs(ref(0, -1), ref(0, 4)), []int{-1}}, {1, refs(ref(0, -7), ref(0, 4)), []int{-7}},
	} {
		for _, kind := range []int{0, 1, 8, 9, -1} {
			d := api.Data{Kind: kind, Words: slices.Repeat([]int64{int64(kind)}, c.n), Relocs: c.l}
			if got := data.Refs(d); !slices.Equal(got, c.want) {
				t.Errorf("Refs(%v) = %v; want %v", d, got, c.want)
			}
		}
	}
}

// P15.3, many lists; of Refs also of more words than Marks has places.
func TestRefsMany(t *testing.T) {
	c := chance(17)
	for i := range 3000 {
		n := i % 9
		if i%300 == 0 {
			n = most - 2 + i/300
		}
		var l []api.Reloc
		for range c.next(12) {
			l = append(l, ref(c.next(12)-2, c.next(40)), ref(max(0, n-2)+c.next(5), c.next(40)-3))
		}
		marks, told := data.Marks(l, n), data.Refs(api.Data{Words: words(n), Relocs: l})
		if len(marks) != min(n, most) || len(told) != n {
			t.Fatalf("of %d: %d marks, %d refs", n, len(marks), len(told))
		}
		for place, sym := range told {
			at, want := first(l, place), -1
			if at >= 0 {
				want = l[at].Sym
			}
			if sym != want || place < most && marks[place] != at {
				t.Fatalf("of %v at %d of %d: %d; want %d", l, place, n, sym, want)
			}
		}
	}
}

// The rules: what is handed in is not changed, and no answer shares memory with it, or with another.
func TestShares(t *testing.T) {
	l := symbols()
	d := api.Data{Kind: 4, Words: words(3), Relocs: refs(ref(0, 3), wide(2, 3))}
	kept := copied(d)
	marks, again := data.Marks(d.Relocs, 3), data.Marks(d.Relocs, 3)
	told, retold := data.Refs(d), data.Refs(d)
	data.Check(d, l)
	clear(marks[:cap(marks)])
	clear(told[:cap(told)])
	if !slices.Equal(again, []int{0, -1, 1}) || !slices.Equal(retold, []int{3, -1, 3}) {
		t.Error("an answer shares memory with another")
	}
	if !same(d, kept) || !slices.Equal(l, symbols()) {
		t.Errorf("what is handed in is changed to %v", d)
	}
	clear(d.Relocs)
	if !slices.Equal(again, []int{0, -1, 1}) || !slices.Equal(retold, []int{3, -1, 3}) {
		t.Error("what was handed in is kept")
	}
}

// The rules, of bytes.
func TestPutShares(t *testing.T) {
	d := api.Data{Kind: 4, Words: words(2), Relocs: refs(ref(0, 3), wide(1, 3))}
	for _, room := range []int{0, 1, 2, 20, 400} {
		for _, has := range []int{0, 1, 3} {
			all := bytes.Repeat([]byte{7}, has+room)
			b := all[:has]
			first, second := data.Put(b, d), data.Put(b, d)
			want := string(second)
			first = first[:cap(first)]
			for i := range first {
				first[i] = 1
			}
			if string(second) != want || string(data.Put(b, d)) != want {
				t.Errorf("%d, room %d: an answer shares memory with another", has, room)
			}
			if strings.Trim(string(all), "\x07") != "" {
				t.Errorf("%d, room %d: what was handed in is %q", has, room, all)
			}
			for i := range all {
				all[i] = 8
			}
			if string(second) != want {
				t.Errorf("%d, room %d: what was handed in is kept", has, room)
			}
		}
	}
	r := octet.New(data.Put(data.Put(nil, d), d))
	first, _ := data.Get(r)
	clear(first.Words[:cap(first.Words)])
	clear(first.Relocs[:cap(first.Relocs)])
	got(t, "the second data", r, d, api.OK)
}

// P7: each call ends at all arguments, and answers alike when it is asked again.
func TestEnds(t *testing.T) {
	c := chance(18)
	pick := func() int { return numbers()[c.next(len(numbers()))] }
	for i := range 5000 {
		d := api.Data{Kind: c.next(12) - 1, Words: words(i % 40)}
		if i%7 == 0 {
			d.Kind = pick()
		}
		var l []api.Symbol
		for range c.next(5) {
			l = append(l, api.Symbol{Sort: c.next(3), Kind: pick(), Def: pick()})
		}
		for range c.next(4) {
			d.Relocs = append(d.Relocs, api.Reloc{At: pick(), Sym: pick(), Wide: c.next(2) == 0})
		}
		kept := copied(d)
		if e := data.Check(d, l); e != checkOracle(d, l) || e != data.Check(d, l) {
			t.Errorf("Check(%v) = %v", d, e)
		}
		if !slices.Equal(data.Refs(d), data.Refs(d)) || !slices.Equal(data.Marks(d.Relocs, i), data.Marks(d.Relocs, i)) {
			t.Errorf("of %v is told otherwise, asked again", d)
		}
		back, e := data.Get(octet.New(data.Put(nil, d)))
		if e != api.OK || len(back.Words) != len(d.Words) || len(back.Relocs) != len(d.Relocs) {
			t.Errorf("%v is got as %v, %v", d, back, e)
		}
		if !same(d, kept) {
			t.Errorf("%v is changed to %v", kept, d)
		}
	}
}

// P7: bytes of any kind are read, or refused, and with an error there is nothing.
func TestGetAny(t *testing.T) {
	c := chance(19)
	told := map[api.Errno]int{}
	for i := range 40000 {
		b := []byte{byte(c.next(256)), byte(c.next(3))}
		for range c.next(40) {
			x := c.next(3)
			if c.next(20) == 0 {
				x = c.next(256)
			}
			b = append(b, byte(x))
		}
		r := octet.New(b)
		d, e := data.Get(r)
		told[e]++
		switch e {
		case api.OK:
			if string(b[:r.At()]) != written(d) {
				t.Fatalf("%d: %q is got as %v", i, b, d)
			}
		case api.ErrShort, api.ErrForm:
			if !same(d, api.Data{}) {
				t.Fatalf("%d: %q is refused, and got as %v", i, b, d)
			}
		default:
			t.Fatalf("%d: %q is refused with %v", i, b, e)
		}
	}
	if told[api.OK] < 1000 || told[api.ErrShort] < 1000 || told[api.ErrForm] < 1000 {
		t.Errorf("errors were told %v times", told)
	}
}

// P7: lists as long as may be are gone through in time.
func TestLong(t *testing.T) {
	const n = 1 << 20
	d := api.Data{Kind: 4, Words: words(n), Relocs: make([]api.Reloc, n)}
	for i := range n {
		d.Relocs[i] = ref(i, 3)
	}
	wants(t, d, symbols(), api.ErrLong)
	if got := data.Put(nil, d); len(got) != 3+11*n {
		t.Errorf("a long list is put as %d bytes", len(got))
	}
	if got := data.Refs(d); len(got) != n || got[n-1] != 3 {
		t.Errorf("%d refs", len(got))
	}
	if got := data.Marks(d.Relocs, math.MaxInt); len(got) != most || got[most-1] != most-1 {
		t.Errorf("%d marks", len(got))
	}
	d.Words = d.Words[:32]
	wants(t, d, symbols(), api.ErrReloc)
	wants(t, d, make([]api.Symbol, n), api.ErrKind)
}
