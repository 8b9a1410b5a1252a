package object_test

import (
	"fmt"
	"math"
	"slices"
	"strings"
	"testing"

	"sheerleg/api"
	"sheerleg/data"
	"sheerleg/name"
	"sheerleg/object"
	"sheerleg/ranges"
	"sheerleg/verify"
)

// chance gives numbers that look as if they hung on nothing, always the same ones.
type chance uint64

func (c *chance) next(n int) int {
	*c = *c*6364136223846793005 + 1442695040888963407
	return int(*c >> 33 % chance(n))
}

// numbers are those that any call may be given.
func numbers() []int {
	return []int{math.MinInt, math.MinInt + 1, -1 << 32, -65536, -257, -256, -129, -128, -3, -2, -1, 0, 1, 2, 3, 7, 8, 9, 12, 13, 31, 32, 33, 127, 128, 255, 256, 257, 65535, 65536, 1 << 31, 1 << 32, 1<<32 + 1, 1<<32 + 2, math.MaxInt - 1, math.MaxInt}
}

// without are the numbers that are not from least to greatest; some have the lowest bits of those that are.
func without(least, greatest int) []int {
	l := append(numbers(), least-1, least-2, greatest+1, greatest+2, 256+least, 256+greatest, 65536+greatest, 1<<32+least, 1<<32+greatest, -1<<32+greatest)
	return slices.DeleteFunc(l, func(n int) bool { return least <= n && n <= greatest })
}

// last returns from functions that do not answer, or answers the first slot.
var last = api.Instr{Op: api.OpReturn}

// plain is a function of the class that does nothing.
func plain(class int) api.Func {
	return api.Func{Class: class, Kinds: []int{0, 0, 0}, Code: []api.Instr{last}}
}

// defers is a function of class 0 that defers what the symbol names; there calls are pending at 1.
func defers(sym int) api.Func {
	return api.Func{Kinds: []int{0}, From: 1, To: 2, Code: []api.Instr{{Op: api.OpDefer}, last}, Relocs: []api.Reloc{{At: 0, Sym: sym}}}
}

// table is data that are functions of the class, that are all the symbol's.
func table(class, words, sym int) api.Data {
	d := api.Data{Kind: 1 + class, Words: make([]int64, words)}
	for at := range words {
		d.Relocs = append(d.Relocs, api.Reloc{At: at, Sym: sym})
	}
	return d
}

// fn, dat are symbols that define items, ext ones that other files define, alone ones that are local.
func fn(name string, class, def int) api.Symbol {
	return api.Symbol{Name: name, Sort: api.SymFunc, Kind: class, Def: def}
}

func dat(name string, kind, def int) api.Symbol {
	return api.Symbol{Name: name, Sort: api.SymData, Kind: kind, Def: def}
}

func ext(name string, sort, kind int) api.Symbol {
	return api.Symbol{Name: name, Sort: sort, Kind: kind, Def: -1}
}

func alone(s api.Symbol) api.Symbol {
	s.Local = true
	return s
}

// right is an object that is right: its functions are items 0 to 3, its data 4 to 6.
func right() api.Object {
	return api.Object{
		Symbols: []api.Symbol{
			0: fn("main", 1, 0), 1: ext("there", api.SymFunc, 3), 2: alone(dat("count", 0, 0)), 3: alone(fn("p", 0, 1)), 4: dat("table", 4, 1), 5: ext("far", api.SymData, 0), 6: fn("q", 3, 2), 7: ext("tables", api.SymData, 4), 8: fn("_", 0, 3), 9: alone(dat("more.", 0, 2)),
		},
		Funcs: []api.Func{
			{Class: 1, Kinds: []int{0, 0, 4}, Pad: 7, Code: []api.Instr{{Op: api.OpLoad, A: 0, B: 1}, {Op: api.OpCall, A: 0}, {Op: api.OpPick, A: 2, B: 0}, {Op: api.OpVia, A: 1, B: 2, C: 3}, last}, Lines: []api.Line{{At: 0, Line: 9}}, Relocs: []api.Reloc{{At: 0, Sym: 5}, {At: 1, Sym: 1}, {At: 2, Sym: 4, Wide: true}}},
			defers(8),
			plain(3),
			plain(0),
		},
		Datas: []api.Data{
			{Words: []int64{1, -2, 3}},
			{Kind: 4, Words: []int64{0, 0}, Relocs: []api.Reloc{{At: 0, Sym: 1}, {At: 1, Sym: 6, Wide: true}}},
			{},
		},
	}
}

// many is an object of so many symbols, functions and data; symbols that define nothing come between others.
func many(symbols, funcs, datas int) api.Object {
	var o api.Object
	for i := range funcs {
		o.Symbols = append(o.Symbols, fn(fmt.Sprint("f", i), 0, i))
		o.Funcs = append(o.Funcs, plain(0))
	}
	for i := range datas {
		o.Symbols = append(o.Symbols, dat(fmt.Sprint("d", i), 0, i))
		o.Datas = append(o.Datas, api.Data{})
	}
	for i := range symbols - funcs - datas {
		o.Symbols = slices.Insert(o.Symbols, i*2%(len(o.Symbols)+1), ext(fmt.Sprint("e", i), 1+i%2, i%8))
	}
	return o
}

// wants holds Check against an error, and its place.
func wants(t *testing.T, o api.Object, want api.Errno, place int) {
	t.Helper()
	if e, at := object.Check(o); e != want || at != place {
		t.Errorf("Check(%v) = %v, %d; want %v, %d", o, e, at, want, place)
	}
}

// wrong is what is turned in right(), and what is then told.
type wrong struct {
	turn func(o *api.Object)
	why  api.Errno
	at   int
}

// symbol is what is wrong of a symbol, when it has been turned.
func symbol(at int, why api.Errno, turn func(s *api.Symbol)) wrong {
	return wrong{func(o *api.Object) { turn(&o.Symbols[at]) }, why, at}
}

// function is what is wrong of a function.
func function(item int, why api.Errno, turn func(f *api.Func)) wrong {
	return wrong{func(o *api.Object) { turn(&o.Funcs[item]) }, why, item}
}

// words is what is wrong of data; the first ones are item 4.
func words(at int, why api.Errno, turn func(d *api.Data)) wrong {
	return wrong{func(o *api.Object) { turn(&o.Datas[at]) }, why, 4 + at}
}

// Example 1, and what is right.
func TestRight(t *testing.T) {
	wants(t, api.Object{}, api.OK, -1)
	wants(t, api.Object{Symbols: []api.Symbol{}, Funcs: []api.Func{}, Datas: []api.Data{}}, api.OK, -1)
	wants(t, right(), api.OK, -1)
	wants(t, api.Object{Symbols: []api.Symbol{ext("a", api.SymFunc, 0)}}, api.OK, -1)
	wants(t, api.Object{Symbols: []api.Symbol{fn("main", 1, 0)}, Funcs: []api.Func{plain(1)}}, api.OK, -1)
	wants(t, api.Object{Symbols: []api.Symbol{alone(dat("d", 0, 0))}, Datas: []api.Data{{Words: []int64{7}}}}, api.OK, -1)
	for class := range 8 {
		wants(t, api.Object{Symbols: []api.Symbol{fn("f", class, 0), ext("g", api.SymFunc, class)}, Funcs: []api.Func{plain(class)}}, api.OK, -1)
		wants(t, api.Object{Symbols: []api.Symbol{ext("f", api.SymFunc, class), dat("d", 1+class, 0)}, Datas: []api.Data{table(class, 32, 0)}}, api.OK, -1)
	}
	for kind := range 9 {
		wants(t, api.Object{Symbols: []api.Symbol{dat("d", kind, 0), ext("e", api.SymData, kind)}, Datas: []api.Data{{Kind: kind}}}, api.OK, -1)
	}
}

// P19.1: just as many as there may be.
func TestAsMany(t *testing.T) {
	for _, o := range []api.Object{many(32, 12, 8), many(32, 0, 0), many(12, 12, 0), many(8, 0, 8), many(20, 12, 8), many(32, 1, 8), many(32, 12, 1)} {
		wants(t, o, api.OK, -1)
	}
}

// P19.1, ErrMany: of symbols, of functions, of data one more than there may be, and many more; ahead of all else.
func TestTooMany(t *testing.T) {
	for _, o := range []api.Object{many(33, 0, 0), many(33, 12, 8), many(34, 0, 0), many(13, 13, 0), many(32, 13, 8), many(9, 0, 9), many(32, 12, 9), many(300, 0, 0), many(256, 0, 0), many(288, 0, 0), many(300, 300, 0), many(256, 256, 0), many(300, 0, 300), many(256, 0, 256), many(264, 0, 264), many(268, 268, 0), many(70000, 0, 0)} {
		wants(t, o, api.ErrMany, -1)
		if len(o.Symbols) > 0 {
			o.Symbols[0] = api.Symbol{}
			wants(t, o, api.ErrMany, -1)
		}
	}
	wants(t, api.Object{Symbols: make([]api.Symbol, 33)}, api.ErrMany, -1)
	wants(t, api.Object{Symbols: make([]api.Symbol, 32)}, api.ErrName, 0)
	wants(t, api.Object{Symbols: make([]api.Symbol, 1), Funcs: make([]api.Func, 13)}, api.ErrMany, -1)
	wants(t, api.Object{Symbols: make([]api.Symbol, 1), Funcs: make([]api.Func, 12)}, api.ErrName, 0)
	wants(t, api.Object{Funcs: make([]api.Func, 13)}, api.ErrMany, -1)
	wants(t, api.Object{Funcs: make([]api.Func, 12)}, api.ErrNone, 0)
	wants(t, api.Object{Symbols: make([]api.Symbol, 1), Datas: make([]api.Data, 9)}, api.ErrMany, -1)
	wants(t, api.Object{Symbols: make([]api.Symbol, 1), Datas: make([]api.Data, 8)}, api.ErrName, 0)
	wants(t, api.Object{Datas: make([]api.Data, 9)}, api.ErrMany, -1)
	wants(t, api.Object{Datas: make([]api.Data, 8)}, api.ErrNone, 0)
	wants(t, api.Object{Funcs: make([]api.Func, 12), Datas: make([]api.Data, 8)}, api.ErrNone, 0)
	wants(t, api.Object{Symbols: make([]api.Symbol, 33), Funcs: make([]api.Func, 13), Datas: make([]api.Data, 9)}, api.ErrMany, -1)
}

// noNames are texts that are no names, and why.
func noNames() map[string]api.Errno {
	return map[string]api.Errno{
		"": api.ErrName, "0": api.ErrName, "9a": api.ErrName, "A": api.ErrName, "aB": api.ErrName, "a b": api.ErrName, "a-": api.ErrName, "a\n": api.ErrName, "\x00": api.ErrName, "\xff": api.ErrName, "\u00e4": api.ErrName, "@a": api.ErrName, strings.Repeat("A", 24): api.ErrName,
		strings.Repeat("a", 25): api.ErrLong, strings.Repeat("A", 25): api.ErrLong, strings.Repeat("a", 256): api.ErrLong, strings.Repeat("a", 280): api.ErrLong, strings.Repeat("0", 70000): api.ErrLong,
	}
}

// P19.1: a name that may not be, at each place; ahead of whatever else is wrong of the symbol.
func TestNames(t *testing.T) {
	for s, e := range noNames() {
		for _, o := range []api.Object{right(), many(32, 12, 8)} {
			for at := range o.Symbols {
				p := o
				p.Symbols = slices.Clone(o.Symbols)
				p.Symbols[at].Name = s
				wants(t, p, e, at)
				p.Symbols[at] = api.Symbol{Name: s, Local: true, Sort: 3, Kind: -1, Def: -1}
				wants(t, p, e, at)
				p.Symbols[at] = api.Symbol{Name: s, Sort: api.SymFunc, Kind: 0, Def: 99}
				wants(t, p, e, at)
				if at > 0 {
					p.Symbols[0].Name = s
					wants(t, p, e, 0)
				}
			}
		}
	}
	for _, s := range []string{"a", "_", ".", "z9", "a.f2", strings.Repeat("a", 24)} {
		o := right()
		o.Symbols[8].Name = s
		wants(t, o, api.OK, -1)
	}
}

// P19.1, ErrKind: a Sort of neither, and a Kind that is no class, of a function, or no kind, of data, at each place.
func TestKinds(t *testing.T) {
	o := right()
	for at := range o.Symbols {
		for _, sort := range without(1, 2) {
			p := right()
			p.Symbols[at].Sort = sort
			wants(t, p, api.ErrKind, at)
			p.Symbols[at] = api.Symbol{Name: p.Symbols[at].Name, Local: true, Sort: sort, Def: -1}
			wants(t, p, api.ErrKind, at)
			p.Symbols[at].Def = 0
			wants(t, p, api.ErrKind, at)
		}
		greatest := 7
		if o.Symbols[at].Sort == api.SymData {
			greatest = 8
		}
		for _, kind := range without(0, greatest) {
			p := right()
			p.Symbols[at].Kind = kind
			wants(t, p, api.ErrKind, at)
			p.Symbols[at].Local, p.Symbols[at].Def = true, -1
			wants(t, p, api.ErrKind, at)
			p.Symbols[at].Def = 99
			wants(t, p, api.ErrKind, at)
			if at > 0 {
				p.Symbols[at].Name = p.Symbols[0].Name
				wants(t, p, api.ErrKind, at)
			}
		}
	}
	// 8 is a kind, and no class.
	wants(t, api.Object{Symbols: []api.Symbol{ext("a", api.SymData, 8)}}, api.OK, -1)
	wants(t, api.Object{Symbols: []api.Symbol{ext("a", api.SymFunc, 8)}}, api.ErrKind, 0)
	wants(t, api.Object{Symbols: []api.Symbol{ext("a", api.SymFunc, 7)}}, api.OK, -1)
}

// P19.1, ErrTwice: of each two symbols, local or not, of one sort or not, defined or not; it is told of the one behind.
func TestTwice(t *testing.T) {
	for _, o := range []api.Object{right(), many(32, 12, 8)} {
		for ahead := range o.Symbols {
			for at := ahead + 1; at < len(o.Symbols); at++ {
				p := o
				p.Symbols = slices.Clone(o.Symbols)
				p.Symbols[at].Name = p.Symbols[ahead].Name
				wants(t, p, api.ErrTwice, at)
				p.Symbols[at].Def = 99
				wants(t, p, api.ErrTwice, at)
				p.Symbols[at].Local, p.Symbols[at].Def = true, -1
				wants(t, p, api.ErrTwice, at)
			}
		}
	}
	for _, l := range [][]api.Symbol{{ext("a", 1, 0), ext("a", 1, 0)}, {ext("a", 1, 0), ext("a", 2, 0)}, {ext("a", 1, 0), ext("b", 1, 0), ext("a", 1, 3)}} {
		wants(t, api.Object{Symbols: l}, api.ErrTwice, len(l)-1)
	}
	// Three of one name, and two pairs: the first one that is there again.
	wants(t, api.Object{Symbols: []api.Symbol{ext("a", 1, 0), ext("a", 1, 0), ext("a", 1, 0)}}, api.ErrTwice, 1)
	wants(t, api.Object{Symbols: []api.Symbol{ext("a", 1, 0), ext("b", 1, 0), ext("b", 1, 0), ext("a", 1, 0)}}, api.ErrTwice, 2)
	// Texts are held against one another whole.
	wants(t, api.Object{Symbols: []api.Symbol{ext("a", 1, 0), ext("a.", 1, 0), ext("aa", 1, 0), ext("_a", 1, 0)}}, api.OK, -1)
}

// P19.1, ErrRange: each Def of each symbol, but that of just how many of its sort are ahead, and -1.
func TestDefs(t *testing.T) {
	o := right()
	for at, s := range o.Symbols {
		next := 0
		for _, x := range o.Symbols[:at] {
			if x.Sort == s.Sort && x.Def != -1 {
				next++
			}
		}
		for _, def := range append(without(next, next), next-1, next-2, next+1, next+2, 256+next) {
			if def == -1 {
				continue
			}
			for _, local := range []bool{false, true} {
				p := right()
				p.Symbols[at].Def, p.Symbols[at].Local = def, local
				wants(t, p, api.ErrRange, at)
			}
		}
	}
	// One that defines nothing does not count; the next one of its sort does.
	for _, c := range []struct {
		l    []api.Symbol
		want api.Errno
		at   int
	}{
		{[]api.Symbol{ext("e", 1, 0), fn("a", 0, 0), ext("f", 1, 0), fn("b", 0, 1)}, api.OK, -1},
		{[]api.Symbol{fn("a", 0, 0), dat("d", 0, 0), fn("b", 0, 1)}, api.OK, -1},
		{[]api.Symbol{fn("b", 0, 1), fn("a", 0, 0)}, api.ErrRange, 0},
		{[]api.Symbol{ext("e", 1, 0), fn("a", 0, 1), fn("b", 0, 0)}, api.ErrRange, 1},
		{[]api.Symbol{fn("a", 0, 0), fn("b", 0, 0)}, api.ErrRange, 1},
		{[]api.Symbol{fn("a", 0, 0), dat("d", 0, 1), fn("b", 0, 1)}, api.ErrRange, 1},
		{[]api.Symbol{dat("d", 0, 0), fn("a", 0, 1), fn("b", 0, 1)}, api.ErrRange, 1},
		{[]api.Symbol{fn("a", 0, 0), fn("b", 0, 1), fn("c", 0, 2)}, api.ErrRange, 2},
		{[]api.Symbol{fn("a", 0, 0), fn("b", 0, 1), dat("d", 0, 0), dat("e", 0, 1)}, api.ErrRange, 3},
	} {
		datas := min(1, len(slices.DeleteFunc(slices.Clone(c.l), func(s api.Symbol) bool { return s.Sort == api.SymFunc })))
		wants(t, api.Object{Symbols: c.l, Funcs: []api.Func{plain(0), plain(0)}, Datas: make([]api.Data, datas)}, c.want, c.at)
	}
}

// P19.1, ErrRange: with no function, or data, left; those of the other sort do not count.
func TestNothingLeft(t *testing.T) {
	for n := range 4 {
		var l []api.Symbol
		for i := range n + 1 {
			l = append(l, fn(fmt.Sprint("f", i), 0, i))
		}
		funcs := slices.Repeat([]api.Func{plain(0)}, n)
		wants(t, api.Object{Symbols: l, Funcs: funcs}, api.ErrRange, n)
		wants(t, api.Object{Symbols: l, Funcs: funcs, Datas: make([]api.Data, 8)}, api.ErrRange, n)
		wants(t, api.Object{Symbols: l[:n], Funcs: funcs}, api.OK, -1)
		for i := range l {
			l[i].Sort = api.SymData
		}
		wants(t, api.Object{Symbols: l, Datas: make([]api.Data, n)}, api.ErrRange, n)
		wants(t, api.Object{Symbols: l, Datas: make([]api.Data, n), Funcs: slices.Repeat([]api.Func{plain(0)}, 12)}, api.ErrRange, n)
		wants(t, api.Object{Symbols: l[:n], Datas: make([]api.Data, n)}, api.OK, -1)
	}
	// What another file defines needs none.
	wants(t, api.Object{Symbols: []api.Symbol{ext("a", 1, 0), ext("b", 2, 0)}}, api.OK, -1)
	wants(t, api.Object{Symbols: []api.Symbol{fn("a", 0, 0), ext("b", 1, 0)}, Funcs: []api.Func{plain(0)}}, api.OK, -1)
}

// P19.1, ErrNone: a local symbol that defines nothing, at each place.
func TestLocal(t *testing.T) {
	o := right()
	for at := range o.Symbols {
		p := right()
		p.Symbols[at].Local = true
		if o.Symbols[at].Def == -1 {
			wants(t, p, api.ErrNone, at)
		} else {
			wants(t, p, api.OK, -1)
			p.Symbols[at].Def = -1
			wants(t, p, api.ErrNone, at)
			p.Symbols[at].Local = false
			if e, _ := object.Check(p); e == api.OK {
				t.Errorf("without who defines what symbol %d does", at)
			}
		}
	}
	wants(t, api.Object{Symbols: []api.Symbol{alone(ext("a", 1, 0))}}, api.ErrNone, 0)
	wants(t, api.Object{Symbols: []api.Symbol{ext("a", 1, 0), alone(ext("b", 2, 0))}}, api.ErrNone, 1)
}

// P19.1, ErrNone: items that no symbol defines, the first of them.
func TestUndefined(t *testing.T) {
	for funcs := range 4 {
		for datas := range 4 {
			for extra := 1; extra < 4; extra++ {
				o := many(12, funcs, datas)
				o.Datas = append(o.Datas, make([]api.Data, extra)...)
				wants(t, o, api.ErrNone, funcs+datas)
				o.Funcs = append(o.Funcs, slices.Repeat([]api.Func{plain(0)}, extra)...)
				wants(t, o, api.ErrNone, funcs)
				o.Datas = o.Datas[:datas]
				wants(t, o, api.ErrNone, funcs)
				// Whatever else is wrong of it.
				o.Funcs[funcs] = api.Func{Class: -1}
				wants(t, o, api.ErrNone, funcs)
			}
		}
	}
	// A symbol of the other sort, or that defines nothing, does not define it.
	wants(t, api.Object{Symbols: []api.Symbol{ext("a", api.SymFunc, 0)}, Funcs: []api.Func{plain(0)}}, api.ErrNone, 0)
	wants(t, api.Object{Symbols: []api.Symbol{dat("a", 0, 0)}, Funcs: []api.Func{plain(0)}, Datas: []api.Data{{}}}, api.ErrNone, 0)
	wants(t, api.Object{Symbols: []api.Symbol{fn("a", 0, 0)}, Funcs: []api.Func{plain(0)}, Datas: []api.Data{{}}}, api.ErrNone, 1)
}

// P19.1, ErrClass: each class, and kind, but that of the symbol; ahead of what else is wrong of the item.
func TestClasses(t *testing.T) {
	o := right()
	for item := range object.Items(o) {
		for _, n := range append(numbers(), 4, 5, 6) {
			p := right()
			if item < 4 {
				if n == o.Funcs[item].Class {
					continue
				}
				p.Funcs[item].Class = n
			} else {
				if n == o.Datas[item-4].Kind {
					continue
				}
				p.Datas[item-4].Kind = n
			}
			wants(t, p, api.ErrClass, item)
			if item < 4 {
				p.Funcs[item].Code = nil
			} else {
				p.Datas[item-4].Words = make([]int64, 33)
			}
			wants(t, p, api.ErrClass, item)
		}
	}
	for is := range 8 {
		for says := range 8 {
			want, at := api.ErrClass, 0
			if is == says {
				want, at = api.OK, -1
			}
			wants(t, api.Object{Symbols: []api.Symbol{fn("f", says, 0)}, Funcs: []api.Func{plain(is)}}, want, at)
			wants(t, api.Object{Symbols: []api.Symbol{dat("d", says, 0)}, Datas: []api.Data{{Kind: is}}}, want, at)
		}
	}
}

// contents is what may be wrong of items' contents in right(): what verify, ranges and data refuse, each of several items.
func contents() []wrong {
	return []wrong{
		// What verify refuses, of a function's form, and of its instructions: the item's number is told, not the instruction's.
		function(0, api.ErrForm, func(f *api.Func) { f.Code = nil }),
		function(3, api.ErrFlow, func(f *api.Func) { f.Code[0].Op = api.OpNop }),
		function(0, api.ErrRange, func(f *api.Func) { f.Pad = 4097 }),
		function(2, api.ErrArg, func(f *api.Func) { f.Kinds = nil }),
		function(2, api.ErrKind, func(f *api.Func) { f.Kinds[2] = 9 }),
		function(3, api.ErrLong, func(f *api.Func) { f.Lines = make([]api.Line, 17) }),
		function(1, api.ErrReloc, func(f *api.Func) { f.Relocs[0].Sym = 32 }),
		function(1, api.ErrReloc, func(f *api.Func) { f.Relocs[0].Sym = 10 }),
		function(0, api.ErrKind, func(f *api.Func) { f.Relocs[0].Sym = 4 }),
		function(0, api.ErrReloc, func(f *api.Func) { f.Relocs = f.Relocs[:2] }),
		function(2, api.ErrRange, func(f *api.Func) { f.Code[0].A = 3 }),
		function(3, api.ErrArg, func(f *api.Func) { f.Code[0].A = 1 }),
		function(1, api.ErrClass, func(f *api.Func) { f.Relocs[0].Sym = 6 }),
		function(0, api.ErrKind, func(f *api.Func) { f.Code[3].C = 2 }),
		// What ranges refuses: the pending place is not in the range.
		function(1, api.ErrRange, func(f *api.Func) { f.To = 1 }),
		function(1, api.ErrRange, func(f *api.Func) { f.From, f.To = 0, 0 }),
		function(1, api.ErrRange, func(f *api.Func) { f.From = 2 }),
		// What data refuses.
		words(0, api.ErrLong, func(d *api.Data) { d.Words = make([]int64, 33) }),
		words(0, api.ErrReloc, func(d *api.Data) { d.Relocs = []api.Reloc{{At: 0, Sym: 1}} }),
		words(1, api.ErrArg, func(d *api.Data) { d.Words[1] = 1 }),
		words(1, api.ErrReloc, func(d *api.Data) { d.Relocs[1].At = 2 }),
		words(1, api.ErrReloc, func(d *api.Data) { d.Relocs[1].Sym = 10 }),
		words(1, api.ErrKind, func(d *api.Data) { d.Relocs[0].Sym = 0 }),
		words(2, api.ErrReloc, func(d *api.Data) { d.Relocs = make([]api.Reloc, 1) }),
		words(2, api.ErrLong, func(d *api.Data) { d.Words = make([]int64, 256) }),
	}
}

// outside is what may be wrong of symbols, and of items that no symbol defines, in right().
func outside() []wrong {
	return []wrong{
		symbol(0, api.ErrName, func(s *api.Symbol) { s.Name = "" }),
		symbol(0, api.ErrKind, func(s *api.Symbol) { s.Sort = 3 }),
		symbol(0, api.ErrRange, func(s *api.Symbol) { s.Def = 1 }),
		symbol(1, api.ErrKind, func(s *api.Symbol) { s.Kind = 8 }),
		symbol(1, api.ErrTwice, func(s *api.Symbol) { s.Name = "main" }),
		symbol(1, api.ErrNone, func(s *api.Symbol) { s.Local = true }),
		symbol(2, api.ErrRange, func(s *api.Symbol) { s.Def = -2 }),
		symbol(3, api.ErrNone, func(s *api.Symbol) { s.Def = -1 }),
		symbol(4, api.ErrKind, func(s *api.Symbol) { s.Kind = 9 }),
		symbol(6, api.ErrRange, func(s *api.Symbol) { s.Def = 4 }),
		symbol(7, api.ErrLong, func(s *api.Symbol) { s.Name = strings.Repeat("a", 25) }),
		symbol(8, api.ErrTwice, func(s *api.Symbol) { s.Name = "p" }),
		symbol(9, api.ErrRange, func(s *api.Symbol) { s.Def = 3 }),
		symbol(9, api.ErrName, func(s *api.Symbol) { s.Name = "9" }),
		symbol(9, api.ErrTwice, func(s *api.Symbol) { s.Name = "main" }),
	}
}

// undefined is what is wrong of an item when its symbol, the last one of its sort, is another file's.
func undefined() []wrong {
	return []wrong{
		{func(o *api.Object) { o.Symbols[8].Def = -1 }, api.ErrNone, 3},
		{func(o *api.Object) { o.Symbols[9].Local, o.Symbols[9].Def = false, -1 }, api.ErrNone, 6},
		{func(o *api.Object) { o.Symbols[8].Kind = 2 }, api.ErrClass, 3},
		{func(o *api.Object) { o.Symbols[9].Kind = 2 }, api.ErrClass, 6},
	}
}

// P19.1: what is wrong of contents, each alone; at the first item, and behind others.
func TestContents(t *testing.T) {
	for i, w := range slices.Concat(contents(), outside(), undefined()) {
		o := right()
		w.turn(&o)
		if e, at := object.Check(o); e != w.why || at != w.at {
			t.Errorf("wrong %d: %v, %d; want %v, %d", i, e, at, w.why, w.at)
		}
	}
	// Each kind of them, of an object's first item, and of its last.
	broken := defers(0)
	broken.From = 2
	noForm := plain(0)
	noForm.Code = nil
	for _, c := range []struct {
		f   api.Func
		why api.Errno
	}{{broken, api.ErrRange}, {noForm, api.ErrForm}} {
		for n := range 12 {
			o := many(12, 12, 0)
			o.Funcs[n] = c.f
			wants(t, o, c.why, n)
		}
	}
	for n := range 8 {
		o := many(20, 12, 8)
		o.Datas[n].Relocs = make([]api.Reloc, 1)
		wants(t, o, api.ErrReloc, 12+n)
		o.Funcs, o.Symbols = nil, o.Symbols[12:]
		o.Symbols = slices.DeleteFunc(o.Symbols, func(s api.Symbol) bool { return s.Sort == api.SymFunc })
		wants(t, o, api.ErrReloc, n)
	}
}

// P19.1: of what is wrong of one function verify's error comes ahead of that of ranges.
func TestVerifyFirst(t *testing.T) {
	o := right()
	o.Funcs[1].From, o.Funcs[1].To = 0, 1
	wants(t, o, api.ErrRange, 1)
	o.Funcs[1].Relocs = nil
	wants(t, o, api.ErrReloc, 1)
	o.Funcs[1].Pad, o.Funcs[1].Lines = 0, make([]api.Line, 17)
	wants(t, o, api.ErrLong, 1)
}

// P19.1: two things wrong at once, whichever is turned first: symbols come ahead of items, and the first ones of each.
func TestTwoWrong(t *testing.T) {
	symbols, items := outside(), contents()
	hold := func(a, b wrong, first wrong) {
		for _, turns := range [][]wrong{{a, b}, {b, a}} {
			o := right()
			for _, w := range turns {
				w.turn(&o)
			}
			if e, at := object.Check(o); e != first.why || at != first.at {
				t.Errorf("Check(%v) = %v, %d; want %v, %d", o, e, at, first.why, first.at)
			}
		}
	}
	for _, a := range symbols {
		for _, b := range items {
			hold(a, b, a)
		}
		for _, b := range undefined() {
			if a.at < 8 {
				hold(a, b, a)
			}
		}
		for _, b := range symbols {
			if a.at < b.at {
				hold(a, b, a)
			}
		}
	}
	for _, a := range items {
		for _, b := range items {
			if a.at < b.at {
				hold(a, b, a)
			}
		}
		for _, b := range undefined() {
			if a.at < b.at {
				hold(a, b, a)
			} else {
				hold(a, b, b) // also of one item
			}
		}
	}
}

// found is what is wrong, and its rank: the least one is told.
type found struct {
	rank, place int
	why         api.Errno
}

// symbolOracle is all that is wrong of the symbol at a place, told by the words of the chapter, one by one.
func symbolOracle(o api.Object, at int) []found {
	s := o.Symbols[at]
	l := []found{{0, at, name.Check(s.Name)}}
	if !(s.Sort == 1 && s.Kind >= 0 && s.Kind < 8) && !(s.Sort == 2 && s.Kind >= 0 && s.Kind < 9) {
		l = append(l, found{1, at, api.ErrKind})
	}
	ahead, left := 0, len(o.Funcs)
	if s.Sort == 2 {
		left = len(o.Datas)
	}
	for _, x := range o.Symbols[:at] {
		if x.Name == s.Name {
			l = append(l, found{2, at, api.ErrTwice})
		}
		if x.Sort == s.Sort && x.Def != -1 {
			ahead++
		}
	}
	if s.Def != -1 && (s.Def != ahead || left <= ahead) {
		l = append(l, found{3, at, api.ErrRange})
	}
	if s.Local && s.Def == -1 {
		l = append(l, found{4, at, api.ErrNone})
	}
	return l
}

// itemOracle is all that is wrong of an item, likewise.
func itemOracle(o api.Object, item int) []found {
	sort, at := 1, item
	if item >= len(o.Funcs) {
		sort, at = 2, item-len(o.Funcs)
	}
	by := definerOracle(o, sort, at)
	if by < 0 {
		return []found{{5, item, api.ErrNone}}
	}
	var l []found
	if sort == 1 {
		e, _ := verify.Check(o.Funcs[at], o.Symbols)
		l = append(l, found{7, item, e}, found{8, item, ranges.Check(o.Funcs[at])})
	} else {
		l = append(l, found{7, item, data.Check(o.Datas[at], o.Symbols)})
	}
	if sort == 1 && o.Symbols[by].Kind != o.Funcs[at].Class || sort == 2 && o.Symbols[by].Kind != o.Datas[at].Kind {
		l = append(l, found{6, item, api.ErrClass})
	}
	return l
}

// definerOracle is the first symbol of the sort whose Def it is.
func definerOracle(o api.Object, sort, def int) int {
	for i := range o.Symbols {
		if o.Symbols[i].Sort == sort && o.Symbols[i].Def == def {
			return i
		}
	}
	return -1
}

// checkOracle is the least of all that is wrong.
func checkOracle(o api.Object) (api.Errno, int) {
	if len(o.Symbols) > 32 || len(o.Funcs) > 12 || len(o.Datas) > 8 {
		return api.ErrMany, -1
	}
	least := found{math.MaxInt, -1, api.OK}
	see := func(base int, l []found) {
		for _, f := range l {
			f.rank += base
			if f.why != api.OK && f.rank < least.rank {
				least = f
			}
		}
	}
	for at := range o.Symbols {
		see(10*at, symbolOracle(o, at))
	}
	for item := range len(o.Funcs) + len(o.Datas) {
		see(1000+10*item, itemOracle(o, item))
	}
	return least.why, least.place
}

// some is an object that is right, of any many of all.
func (c *chance) some() api.Object {
	var o api.Object
	for range c.next(20) {
		s := fmt.Sprint("s", len(o.Symbols))
		switch class := c.next(8); c.next(4) {
		case 0:
			o.Symbols = append(o.Symbols, ext(s, 1+c.next(2), class))
		case 1:
			if len(o.Funcs) < 12 {
				o.Symbols = append(o.Symbols, api.Symbol{Name: s, Local: c.next(2) == 0, Sort: api.SymFunc, Kind: class, Def: len(o.Funcs)})
				o.Funcs = append(o.Funcs, plain(class))
			}
		default:
			if len(o.Datas) < 8 {
				o.Symbols = append(o.Symbols, api.Symbol{Name: s, Local: c.next(2) == 0, Sort: api.SymData, Kind: c.next(9), Def: len(o.Datas)})
				o.Datas = append(o.Datas, api.Data{Kind: o.Symbols[len(o.Symbols)-1].Kind})
			}
		}
	}
	for i, s := range o.Symbols {
		for at := range o.Datas {
			if s.Sort == api.SymFunc && o.Datas[at].Kind == 1+s.Kind && c.next(2) == 0 {
				o.Datas[at] = table(s.Kind, c.next(33), i)
			}
		}
		for at := range o.Funcs {
			if s.Sort == api.SymFunc && s.Kind == 0 && o.Funcs[at].Class == 0 && c.next(2) == 0 {
				o.Funcs[at] = defers(i)
			}
		}
	}
	return o
}

// turn changes something of o, mostly to what may not be.
func (c *chance) turn(o *api.Object) {
	pick := func() int { return numbers()[c.next(len(numbers()))] }
	few := func() int { return c.next(11) - 2 }
	if n := len(o.Symbols); n > 0 {
		s := &o.Symbols[c.next(n)]
		switch c.next(12) {
		case 0:
			s.Name = []string{"", "A", "0", strings.Repeat("a", 25), "a"}[c.next(5)]
		case 1:
			s.Name = o.Symbols[c.next(n)].Name
		case 2:
			s.Local = !s.Local
		case 3:
			s.Sort = []int{1, 2, 3, 0, pick()}[c.next(5)]
		case 4:
			s.Kind = []int{few(), pick()}[c.next(2)]
		case 5:
			s.Def = []int{few(), few(), pick()}[c.next(3)]
		case 6:
			at := c.next(n)
			o.Symbols = slices.Delete(o.Symbols, at, at+1)
		case 7:
			other := &o.Symbols[c.next(n)]
			*s, *other = *other, *s
		}
	}
	if n := len(o.Funcs); n > 0 {
		f := &o.Funcs[c.next(n)]
		switch c.next(12) {
		case 0:
			f.Class = few()
		case 1:
			f.From, f.To = few(), few()
		case 2:
			f.Relocs = append(f.Relocs, api.Reloc{At: few(), Sym: few()})
		case 3:
			o.Funcs = append(o.Funcs, plain(c.next(8)))
		case 4:
			*f = defers(few())
		}
	}
	if n := len(o.Datas); n > 0 {
		d := &o.Datas[c.next(n)]
		switch c.next(12) {
		case 0:
			d.Kind = few()
		case 1:
			d.Words = append(d.Words, int64(few()))
		case 2:
			*d = table(few(), c.next(4), few())
		case 3:
			o.Datas = append(o.Datas, api.Data{Kind: c.next(9)})
		}
	}
}

// copied is an object that shares nothing with o.
func copied(o api.Object) api.Object {
	p := api.Object{Symbols: slices.Clone(o.Symbols), Funcs: slices.Clone(o.Funcs), Datas: slices.Clone(o.Datas)}
	for i := range p.Funcs {
		f := &p.Funcs[i]
		f.Kinds, f.Lines, f.Code, f.Relocs = slices.Clone(f.Kinds), slices.Clone(f.Lines), slices.Clone(f.Code), slices.Clone(f.Relocs)
	}
	for i := range p.Datas {
		d := &p.Datas[i]
		d.Words, d.Relocs = slices.Clone(d.Words), slices.Clone(d.Relocs)
	}
	return p
}

// P19.1, many objects, with nothing, something, much wrong; what is handed in is not changed.
func TestMany(t *testing.T) {
	c := chance(41)
	told := map[api.Errno]int{}
	for i := range 40000 {
		o := c.some()
		wants(t, o, api.OK, -1)
		for range 1 + i%6 {
			c.turn(&o)
		}
		kept := fmt.Sprint(o)
		want, place := checkOracle(o)
		told[want]++
		wants(t, o, want, place)
		wants(t, copied(o), want, place)
		if fmt.Sprint(o) != kept {
			t.Errorf("%v is changed to %v", kept, o)
		}
	}
	for _, e := range []api.Errno{api.OK, api.ErrMany, api.ErrName, api.ErrLong, api.ErrKind, api.ErrTwice, api.ErrRange, api.ErrNone, api.ErrClass, api.ErrReloc, api.ErrArg} {
		if told[e] < 20 {
			t.Errorf("%v is told %d times", e, told[e])
		}
	}
}

// P19.2: how many items there are, whatever the symbols are.
func TestItems(t *testing.T) {
	for funcs := range 14 {
		for datas := range 10 {
			o := many(40, funcs, datas)
			if n := object.Items(o); n != funcs+datas {
				t.Errorf("%d functions and %d data: %d items", funcs, datas, n)
			}
			o.Symbols = nil
			if n := object.Items(o); n != funcs+datas {
				t.Errorf("%d functions and %d data, no symbols: %d items", funcs, datas, n)
			}
		}
	}
	if n := object.Items(api.Object{Symbols: make([]api.Symbol, 9)}); n != 0 {
		t.Errorf("symbols alone: %d items", n)
	}
	if n := object.Items(api.Object{Funcs: make([]api.Func, 300), Datas: make([]api.Data, 70000)}); n != 70300 {
		t.Errorf("much: %d items", n)
	}
}

// defines holds Definer against a place.
func defines(t *testing.T, o api.Object, item, want int) {
	t.Helper()
	if at := object.Definer(o, item); at != want {
		t.Errorf("Definer(%v, %d) = %d; want %d", o.Symbols, item, at, want)
	}
}

// P19.2, written out: items that there are, and such as there are not.
func TestDefiner(t *testing.T) {
	o := right()
	for item, want := range []int{0, 3, 6, 8, 2, 4, 9} {
		defines(t, o, item, want)
	}
	for _, item := range append(without(0, 6), 7, 8, 10) {
		defines(t, o, item, -1)
		defines(t, api.Object{}, item, -1)
		defines(t, api.Object{Symbols: o.Symbols}, item, -1)
		// Symbols that say so define no item that there is not.
		l := []api.Symbol{fn("a", 0, item), dat("b", 0, item), dat("c", 0, item-4)}
		defines(t, api.Object{Symbols: l, Funcs: o.Funcs, Datas: o.Datas}, item, -1)
		defines(t, api.Object{Symbols: l}, item, -1)
	}
	defines(t, api.Object{}, 0, -1)
}

// P19.2: two symbols that define one item, and such as are of another sort, or define another: the first one, whether the object is right or not.
func TestDefinerFirst(t *testing.T) {
	funcs, datas := []api.Func{plain(0), plain(0)}, make([]api.Data, 2)
	for _, c := range []struct {
		l    []api.Symbol
		want [4]int
	}{
		{nil, [4]int{-1, -1, -1, -1}},
		{[]api.Symbol{fn("a", 0, 0), fn("b", 0, 0)}, [4]int{0, -1, -1, -1}},
		{[]api.Symbol{fn("a", 0, 1), fn("b", 0, 0), fn("c", 0, 1), fn("d", 0, 0)}, [4]int{1, 0, -1, -1}},
		{[]api.Symbol{dat("a", 0, 1), fn("a", 0, 1), dat("a", 0, 1)}, [4]int{-1, 1, -1, 0}},
		{[]api.Symbol{dat("a", 0, 0), fn("b", 0, 0)}, [4]int{1, -1, 0, -1}},
		// Data are counted from 0 on by themselves.
		{[]api.Symbol{dat("a", 0, 2), dat("b", 0, 3), fn("c", 0, 2), fn("d", 0, 3)}, [4]int{-1, -1, -1, -1}},
		// The sort alone, and the Def, count; names, kinds and Local do not.
		{[]api.Symbol{{Sort: 3}, {Sort: 0}, {Sort: -1}, {Sort: 257}, {Sort: 1, Kind: -9, Local: true}, {Sort: 2, Kind: 99}}, [4]int{4, -1, 5, -1}},
		{[]api.Symbol{{Sort: 1, Def: -1}, {Sort: 2, Def: -1}, {Sort: 1, Def: 256}, {Sort: 1, Def: 1 << 32}, {Sort: 2, Def: 1<<32 + 1}}, [4]int{-1, -1, -1, -1}},
	} {
		for item, want := range c.want {
			defines(t, api.Object{Symbols: c.l, Funcs: funcs, Datas: datas}, item, want)
		}
	}
}

// P19.2, many objects, also such as may not be.
func TestDefinerMany(t *testing.T) {
	c := chance(42)
	for i := range 20000 {
		o := c.some()
		for range i % 6 {
			c.turn(&o)
		}
		for item := -2; item < object.Items(o)+2; item++ {
			want := -1
			switch {
			case item < 0 || item >= len(o.Funcs)+len(o.Datas):
			case item < len(o.Funcs):
				want = definerOracle(o, 1, item)
			default:
				want = definerOracle(o, 2, item-len(o.Funcs))
			}
			defines(t, o, item, want)
		}
	}
}

// P19.3: in an object that is right each item has just one symbol, and each symbol that is defined one item.
func TestFollows(t *testing.T) {
	c := chance(43)
	taken := 0
	for i := range 20000 {
		o := c.some()
		for range i % 3 {
			c.turn(&o)
		}
		if e, _ := object.Check(o); e != api.OK {
			continue
		}
		taken++
		symbols := map[int]bool{}
		for item := range object.Items(o) {
			symbols[object.Definer(o, item)] = true
		}
		defined := 0
		for at, s := range o.Symbols {
			if s.Def == -1 {
				continue
			}
			defined++
			if !symbols[at] {
				t.Errorf("%v: symbol %d defines no item", o.Symbols, at)
			}
		}
		if symbols[-1] || len(symbols) != object.Items(o) || defined != object.Items(o) {
			t.Errorf("%v: %d items, %d symbols that define, %v", o.Symbols, object.Items(o), defined, symbols)
		}
	}
	if taken < 8000 {
		t.Errorf("%d objects are right", taken)
	}
}

// P7: each call ends at all arguments, and answers alike when it is asked again.
func TestEnds(t *testing.T) {
	c := chance(44)
	pick := func() int { return numbers()[c.next(len(numbers()))] }
	wild := func() api.Object {
		var o api.Object
		for range c.next(40) {
			o.Symbols = append(o.Symbols, api.Symbol{Name: []string{"", "a", "b", "\xff", "c"}[c.next(5)], Local: c.next(2) == 0, Sort: c.next(4), Kind: pick(), Def: c.next(4) - 1})
		}
		for range c.next(16) {
			f := api.Func{Class: pick(), Kinds: []int{pick(), 0}, Pad: pick(), From: pick(), To: pick(), Relocs: []api.Reloc{{At: pick(), Sym: pick()}}, Lines: []api.Line{{At: pick(), Line: pick()}}}
			f.Code = append(f.Code, api.Instr{Op: c.next(31), A: pick(), B: pick(), C: pick(), N: int64(pick())})
			o.Funcs = append(o.Funcs, f)
		}
		for range c.next(12) {
			o.Datas = append(o.Datas, api.Data{Kind: pick(), Words: []int64{int64(pick())}, Relocs: []api.Reloc{{At: pick(), Sym: pick()}}})
		}
		return o
	}
	for range 10000 {
		o := wild()
		want, place := checkOracle(o)
		wants(t, o, want, place)
		wants(t, o, want, place)
		for _, item := range numbers() {
			if at := object.Definer(o, item); at != object.Definer(o, item) || at < -1 || at >= len(o.Symbols) {
				t.Errorf("Definer(%v, %d) = %d", o, item, at)
			}
		}
	}
}
