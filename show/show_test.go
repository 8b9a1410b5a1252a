package show_test

import (
	"fmt"
	"math"
	"slices"
	"strings"
	"testing"

	"sheerleg/api"
	"sheerleg/asm"
	"sheerleg/object"
	"sheerleg/show"
)

// kinds are the texts of the kinds, by kinds.
var kinds = []string{"n", "f0", "f0r", "f1", "f1r", "f2", "f2r", "f3", "f3r"}

// last returns from functions that do not answer, or answers the first slot.
var last = api.Instr{Op: api.OpReturn}

// numbers are those that any call may be given.
func numbers() []int {
	return []int{math.MinInt, math.MinInt + 1, -1 << 32, -65536, -257, -256, -3, -2, -1, 0, 1, 2, 3, 4, 5, 6, 7, 8, 9, 10, 31, 32, 255, 256, 257, 264, 65535, 65536, 1 << 31, 1 << 32, 1<<32 + 1, 1<<32 + 2, math.MaxInt - 1, math.MaxInt}
}

// odds are texts that are no names.
func odds() []string {
	return []string{"", "A", "0", "@", "#", "a b", " ", "\n", "a\nb", "\x00", "\xff", "\u00e4", "local", strings.Repeat("a", 300)}
}

// lines is a text of these lines, each with its end.
func lines(l ...string) string {
	var b strings.Builder
	for _, s := range l {
		b.WriteString(s + "\n")
	}
	return b.String()
}

// told is an object as a text in which empty lists are as nil ones.
func told(o api.Object) string {
	return fmt.Sprintf("%+v", o)
}

// shows holds Text of o against these lines, Count against how many they are, and what is parsed of them against o.
func shows(t *testing.T, o api.Object, l ...string) {
	t.Helper()
	s, e, at := show.Text(o)
	if s != lines(l...) || e != api.OK || at != -1 {
		t.Errorf("Text(%+v) = %q, %v, %d; want %q", o, s, e, at, l)
	}
	if n := show.Count(o); n != len(l) {
		t.Errorf("Count(%+v) = %d; want %d", o, n, len(l))
	}
	again, n, e := asm.Parse(s)
	if told(again) != told(o) || n != len(l) || e != api.OK {
		t.Errorf("%q is parsed as %+v, %d, %v; want %+v", s, again, n, e, o)
	}
}

// refuses holds Text of o against an error and its place, and Count against 0.
func refuses(t *testing.T, o api.Object, e api.Errno, at int) {
	t.Helper()
	if s, why, place := show.Text(o); s != "" || why != e || place != at {
		t.Errorf("Text(%+v) = %q, %v, %d; want %v, %d", o, s, why, place, e, at)
	}
	if n := show.Count(o); n != 0 {
		t.Errorf("Count(%+v) = %d", o, n)
	}
}

// declares holds Symbol, with and without nosplit, against texts.
func declares(t *testing.T, x api.Symbol, plain, nosplit string) {
	t.Helper()
	if got := show.Symbol(x, false); got != plain {
		t.Errorf("Symbol(%+v, false) = %q; want %q", x, got, plain)
	}
	if got := show.Symbol(x, true); got != nosplit {
		t.Errorf("Symbol(%+v, true) = %q; want %q", x, got, nosplit)
	}
}

// play is an object of all that may stand in one, and its text.
func play() (api.Object, []string) {
	return api.Object{
		Symbols: []api.Symbol{
			{Name: "main", Sort: api.SymFunc, Kind: 1}, {Name: "there", Sort: api.SymFunc, Kind: 3, Def: -1}, {Name: "table", Sort: api.SymData, Kind: 4}, {Name: "count", Local: true, Sort: api.SymData, Def: 1},
			{Name: "later", Local: true, Sort: api.SymFunc, Kind: 2, Def: 1}, {Name: "far", Sort: api.SymData, Kind: 8, Def: -1}, {Name: "own", Sort: api.SymFunc, Kind: 3, Def: 2}, {Name: "none", Sort: api.SymData, Def: 2},
		},
		Funcs: []api.Func{
			{
				Class: 1, Kinds: []int{0, 0, 4, 0}, Pad: 70, From: 2, To: 10, Lines: []api.Line{{At: 0, Line: 3}, {At: 3, Line: 5}, {At: 9, Line: 65535}},
				Code:   []api.Instr{{Op: api.OpSet, N: -7}, {Op: api.OpDefer}, {Op: api.OpLoad, A: 1}, {Op: api.OpCall}, {Op: api.OpStore, A: 1}, {Op: api.OpFunc, A: 2}, {Op: api.OpPick, A: 2}, {Op: api.OpVia, B: 2, C: 3}, {Op: api.OpZero, N: 8}, last},
				Relocs: []api.Reloc{{At: 1, Sym: 4, Wide: true}, {At: 2, Sym: 3}, {At: 3, Sym: 0}, {At: 4, Sym: 3, Wide: true}, {At: 5, Sym: 1, Wide: true}, {At: 6, Sym: 2}},
			},
			{Class: 2, Kinds: []int{0}, Nosplit: true, Code: []api.Instr{last}},
			{Class: 3, Kinds: []int{0}, Nosplit: true, Code: []api.Instr{last}},
		},
		Datas: []api.Data{
			{Kind: 4, Words: []int64{0, 0, 0}, Relocs: []api.Reloc{{At: 0, Sym: 1, Wide: true}, {At: 2, Sym: 6}}},
			{Words: []int64{-1 << 63, 0, 1<<63 - 1}},
			{},
		},
	}, []string{
		"proc main f0r", "pad 70", "range 2 10", "slots n n f1r n",
		"line 3", "set 0 -7", "defer 0 @later", "load 1 0 @count short", "line 5", "call 0 @main short", "store 1 0 @count", "func 2 @there", "pick 2 0 @table short", "via 0 2 f1r", "zero 0 8", "line 65535", "return 0",
		"extern proc there f1r",
		"data table f1r", "word @there", "word nil", "word @own short",
		"data count n local", "word -9223372036854775808", "word 0", "word 9223372036854775807",
		"proc later f1 local nosplit", "slots n", "return 0",
		"extern data far f3r",
		"proc own f1r nosplit", "slots n", "return 0",
		"data none n",
	}
}

// Example 1, objects of nothing, and one of all that may stand in one.
func TestShown(t *testing.T) {
	declares(t, api.Symbol{Name: "d", Sort: api.SymData, Def: -1}, "extern data d n", "extern data d n")
	shows(t, api.Object{Symbols: []api.Symbol{{Name: "d", Sort: api.SymData, Def: -1}}}, "extern data d n")
	shows(t, api.Object{})
	shows(t, api.Object{Symbols: []api.Symbol{}, Funcs: []api.Func{}, Datas: []api.Data{}})
	o, l := play()
	shows(t, o, l...)
}

// P22.1: Symbol of functions and data, of each kind; what another file defines, with the Def -1 alone, is neither local nor nosplit.
func TestSymbol(t *testing.T) {
	for _, name := range append(odds(), "main", "d", "_", ".", "a.f2", "extern", strings.Repeat("a", 24)) {
		for _, def := range []int{0, 1, 7, 300, math.MaxInt, -2, math.MinInt} {
			for class, text := range kinds[1:] {
				declares(t, api.Symbol{Name: name, Sort: api.SymFunc, Kind: class, Def: def}, "proc "+name+" "+text, "proc "+name+" "+text+" nosplit")
				declares(t, api.Symbol{Name: name, Sort: api.SymFunc, Kind: class, Def: def, Local: true}, "proc "+name+" "+text+" local", "proc "+name+" "+text+" local nosplit")
			}
			for kind, text := range kinds {
				declares(t, api.Symbol{Name: name, Sort: api.SymData, Kind: kind, Def: def}, "data "+name+" "+text, "data "+name+" "+text)
				declares(t, api.Symbol{Name: name, Sort: api.SymData, Kind: kind, Def: def, Local: true}, "data "+name+" "+text+" local", "data "+name+" "+text+" local")
			}
		}
		for _, local := range []bool{false, true} {
			for class, text := range kinds[1:] {
				declares(t, api.Symbol{Name: name, Sort: api.SymFunc, Kind: class, Def: -1, Local: local}, "extern proc "+name+" "+text, "extern proc "+name+" "+text)
			}
			for kind, text := range kinds {
				declares(t, api.Symbol{Name: name, Sort: api.SymData, Kind: kind, Def: -1, Local: local}, "extern data "+name+" "+text, "extern data "+name+" "+text)
			}
		}
	}
}

// P22.1: Symbol of a Sort of neither, and of a Kind that is none: nothing.
func TestNoSymbol(t *testing.T) {
	for _, def := range []int{-1, 0, 1} {
		for _, local := range []bool{false, true} {
			for _, n := range numbers() {
				x := api.Symbol{Name: "d", Local: local, Sort: n, Def: def}
				if n != 1 && n != 2 {
					for kind := range 10 {
						x.Kind = kind
						declares(t, x, "", "")
					}
				}
				x.Sort, x.Kind = api.SymFunc, n
				if n < 0 || n > 7 {
					declares(t, x, "", "")
				}
				x.Sort = api.SymData
				if n < 0 || n > 8 {
					declares(t, x, "", "")
				}
			}
		}
	}
	declares(t, api.Symbol{}, "", "")
}

// one is an object of a function f.
func one(f api.Func) api.Object {
	return api.Object{Symbols: []api.Symbol{{Name: "f", Sort: api.SymFunc, Kind: f.Class}}, Funcs: []api.Func{f}}
}

// P22.1: pad, range, slots and line, each shown, and left out.
func TestParts(t *testing.T) {
	for i := range 32 {
		f := api.Func{Code: []api.Instr{{Op: api.OpNop}, last}}
		l := []string{"proc f f0"}
		if i&1 > 0 {
			f.Nosplit, l = true, []string{"proc f f0 nosplit"}
		}
		if i&2 > 0 {
			f.Pad, l = 1+i%4*1365, append(l, fmt.Sprint("pad ", 1+i%4*1365))
		}
		if i&4 > 0 {
			f.To, l = 2, append(l, "range 0 2")
		}
		if i&8 > 0 {
			f.Kinds, l = []int{0, 8, 1}, append(l, "slots n f3r f0")
		}
		if i&16 > 0 {
			f.Lines, l = []api.Line{{At: 0, Line: 0}, {At: 1, Line: 65535}}, append(l, "line 0", "nop", "line 65535", "return 0")
		} else {
			l = append(l, "nop", "return 0")
		}
		shows(t, one(f), l...)
	}
	code := []api.Instr{{Op: api.OpNop}, last}
	for _, r := range [][2]int{{0, 1}, {1, 1}, {1, 2}, {2, 2}} {
		shows(t, one(api.Func{From: r[0], To: r[1], Code: code}), "proc f f0", fmt.Sprint("range ", r[0], " ", r[1]), "nop", "return 0")
	}
	for _, pad := range []int{1, 9, 10, 4095, 4096} {
		shows(t, one(api.Func{Pad: pad, Code: code}), "proc f f0", fmt.Sprint("pad ", pad), "nop", "return 0")
	}
	shows(t, one(api.Func{Kinds: []int{0, 1, 2, 3, 4, 5, 6, 7, 8}, Code: code}), "proc f f0", "slots n f0 f0r f1 f1r f2 f2r f3 f3r", "nop", "return 0")
	shows(t, one(api.Func{Kinds: make([]int, 16), Code: code}), "proc f f0", "slots"+strings.Repeat(" n", 16), "nop", "return 0")
}

// P22.1: a line's number stands ahead of the instruction at whose place it is.
func TestLines(t *testing.T) {
	for set := range 1 << 6 {
		f := api.Func{Code: slices.Repeat([]api.Instr{{Op: api.OpNop}}, 6)}
		l := []string{"proc f f0"}
		if set > 0 && set&1 == 0 {
			continue // the first line must be at 0
		}
		for at := range 6 {
			if set>>at&1 > 0 {
				f.Lines, l = append(f.Lines, api.Line{At: at, Line: at * 99}), append(l, fmt.Sprint("line ", at*99))
			}
			l = append(l, "nop")
		}
		f.Code[5] = last
		l[len(l)-1] = "return 0"
		shows(t, one(f), l...)
	}
}

// P22.1: each operation that objects may have, with its reference, or without.
func TestOperations(t *testing.T) {
	symbols := []api.Symbol{{Name: "f", Sort: api.SymFunc}, {Name: "g", Sort: api.SymFunc, Kind: 2, Def: -1}, {Name: "d", Sort: api.SymData, Def: -1}, {Name: "e", Sort: api.SymData, Kind: 3, Def: -1}}
	externs := []string{"extern proc g f1", "extern data d n", "extern data e f1"}
	for _, x := range []struct {
		x   api.Instr
		s   string
		sym int
	}{
		{api.Instr{Op: api.OpNop}, "nop", 0}, {api.Instr{Op: api.OpSet, A: 1, N: -1 << 31}, "set 1 -2147483648", 0}, {api.Instr{Op: api.OpMove, A: 1}, "move 1 0", 0},
		{api.Instr{Op: api.OpAdd, B: 1, C: 2}, "add 0 1 2", 0}, {api.Instr{Op: api.OpSub, A: 2, C: 1}, "sub 2 0 1", 0}, {api.Instr{Op: api.OpMul, A: 1, B: 2}, "mul 1 2 0", 0}, {api.Instr{Op: api.OpDiv}, "div 0 0 0", 0}, {api.Instr{Op: api.OpMod, A: 1}, "mod 1 0 0", 0}, {api.Instr{Op: api.OpLess, B: 1}, "less 0 1 0", 0}, {api.Instr{Op: api.OpSame, C: 1}, "same 0 0 1", 0},
		{api.Instr{Op: api.OpJump, N: 1}, "jump 1", 0}, {api.Instr{Op: api.OpZero, A: 1, N: 1}, "zero 1 1", 0}, {api.Instr{Op: api.OpIn, A: 1}, "in 1", 0}, {api.Instr{Op: api.OpOut, A: 2}, "out 2", 0},
		{api.Instr{Op: api.OpLoad, A: 1}, "load 1 0", 2}, {api.Instr{Op: api.OpStore, B: 1}, "store 0 1", 2}, {api.Instr{Op: api.OpFunc, A: 3}, "func 3", 1}, {api.Instr{Op: api.OpPick, A: 3, B: 1}, "pick 3 1", 3}, {api.Instr{Op: api.OpCall, A: 2}, "call 2", 1},
		{api.Instr{Op: api.OpVia, A: 1, B: 3, C: 2}, "via 1 3 f1", 0}, {api.Instr{Op: api.OpDefer, A: 1}, "defer 1", 1}, {api.Instr{Op: api.OpPanic, A: 2}, "panic 2", 0}, {api.Instr{Op: api.OpRecover, A: 1, B: 2}, "recover 1 2", 0}, {last, "return 0", 0},
	} {
		f := api.Func{Kinds: []int{0, 0, 0, 3}, To: 2, Code: []api.Instr{x.x, last}}
		o := api.Object{Symbols: symbols, Funcs: []api.Func{f}}
		text := func(own string) []string {
			return append([]string{"proc f f0", "range 0 2", "slots n n n f1", own, "return 0"}, externs...)
		}
		if x.sym == 0 {
			shows(t, o, text(x.s)...)
			continue
		}
		o.Funcs[0].Relocs = []api.Reloc{{At: 0, Sym: x.sym}}
		shows(t, o, text(x.s+" @"+symbols[x.sym].Name+" short")...)
		o.Funcs[0].Relocs = []api.Reloc{{At: 0, Sym: x.sym, Wide: true}}
		shows(t, o, text(x.s+" @"+symbols[x.sym].Name)...)
	}
}

// P22.1: data of each kind: numbers, nil, and names with and without short.
func TestData(t *testing.T) {
	words := []int64{0, 1, -1, 10, -10, 1 << 32, 1<<63 - 1, -1 << 63}
	shows(t, api.Object{Symbols: []api.Symbol{{Name: "d", Sort: api.SymData}}, Datas: []api.Data{{Words: words}}}, "data d n", "word 0", "word 1", "word -1", "word 10", "word -10", "word 4294967296", "word 9223372036854775807", "word -9223372036854775808")
	for class, text := range kinds[1:] {
		o := api.Object{Symbols: []api.Symbol{{Name: "nil", Sort: api.SymFunc, Kind: class, Def: -1}, {Name: "d", Local: true, Sort: api.SymData, Kind: 1 + class}, {Name: "short", Sort: api.SymFunc, Kind: class, Def: -1}}}
		o.Datas = []api.Data{{Kind: 1 + class}}
		shows(t, o, "extern proc nil "+text, "data d "+text+" local", "extern proc short "+text)
		o.Datas[0].Words = make([]int64, 3)
		shows(t, o, "extern proc nil "+text, "data d "+text+" local", "word nil", "word nil", "word nil", "extern proc short "+text)
		o.Datas[0].Relocs = []api.Reloc{{At: 0, Sym: 2}, {At: 2, Sym: 0, Wide: true}}
		shows(t, o, "extern proc nil "+text, "data d "+text+" local", "word @short short", "word nil", "word @nil", "extern proc short "+text)
	}
}

// P22.1: Text of an object that may not be: object.Check's error, and its place; Count of it.
func TestRefused(t *testing.T) {
	for _, x := range []struct {
		turn func(o *api.Object)
		e    api.Errno
		at   int
	}{
		{func(o *api.Object) { o.Symbols = make([]api.Symbol, 33) }, api.ErrMany, -1},
		{func(o *api.Object) { o.Funcs = make([]api.Func, 13) }, api.ErrMany, -1},
		{func(o *api.Object) { o.Datas = make([]api.Data, 9) }, api.ErrMany, -1},
		{func(o *api.Object) { o.Symbols[3].Name = "a b" }, api.ErrName, 3},
		{func(o *api.Object) { o.Symbols[7].Name = "a\nb" }, api.ErrName, 7},
		{func(o *api.Object) { o.Symbols[7].Name = strings.Repeat("a", 25) }, api.ErrLong, 7},
		{func(o *api.Object) { o.Symbols[2].Sort = 3 }, api.ErrKind, 2},
		{func(o *api.Object) { o.Symbols[1].Kind = 8 }, api.ErrKind, 1},
		{func(o *api.Object) { o.Symbols[7].Name = "main" }, api.ErrTwice, 7},
		{func(o *api.Object) { o.Symbols[4].Def = 2 }, api.ErrRange, 4},
		{func(o *api.Object) { o.Symbols[5].Def = -2 }, api.ErrRange, 5},
		{func(o *api.Object) { o.Symbols[5].Local = true }, api.ErrNone, 5},
		{func(o *api.Object) { o.Datas = append(o.Datas, api.Data{}) }, api.ErrNone, 6},
		{func(o *api.Object) { o.Funcs[1].Class = 0 }, api.ErrClass, 1},
		{func(o *api.Object) { o.Datas[1].Kind = 1 }, api.ErrClass, 4},
		{func(o *api.Object) { o.Funcs[2].Code = nil }, api.ErrForm, 2},
		{func(o *api.Object) { o.Funcs[0].Relocs[0].At = 0 }, api.ErrReloc, 0},
		{func(o *api.Object) { o.Funcs[0].Relocs = append(o.Funcs[0].Relocs, api.Reloc{At: 9}) }, api.ErrReloc, 0},
		{func(o *api.Object) { o.Funcs[0].Code[0].Op = api.OpCheck }, api.ErrKind, 0},
		{func(o *api.Object) { o.Funcs[0].Code[0].N = 1 << 31 }, api.ErrRange, 0},
		{func(o *api.Object) { o.Funcs[0].Code[7].C = 9 }, api.ErrClass, 0},
		{func(o *api.Object) { o.Funcs[0].From = 3 }, api.ErrRange, 0},
		{func(o *api.Object) { o.Funcs[0].Lines[0].At = 1 }, api.ErrRange, 0},
		{func(o *api.Object) { o.Funcs[0].Lines[2].At = 10 }, api.ErrRange, 0},
		{func(o *api.Object) { o.Datas[0].Words[1] = 1 }, api.ErrArg, 3},
		{func(o *api.Object) { o.Datas[1].Relocs = []api.Reloc{{}} }, api.ErrReloc, 4},
		{func(o *api.Object) { o.Datas[0].Relocs[1].Sym = 8 }, api.ErrReloc, 3},
		{func(o *api.Object) { o.Datas[1].Words = make([]int64, 33) }, api.ErrLong, 4},
	} {
		o, _ := play()
		x.turn(&o)
		refuses(t, o, x.e, x.at)
	}
}

// chance gives numbers that look as if they hung on nothing, always the same ones.
type chance uint64

func (c *chance) next(n int) int {
	*c = *c*6364136223846793005 + 1442695040888963407
	return int(*c >> 33 % chance(n))
}

func (c *chance) yes() bool {
	return c.next(2) == 0
}

// some is an object that may be.
func (c *chance) some() api.Object {
	var o api.Object
	for i := range c.next(9) {
		s := api.Symbol{Name: fmt.Sprint(string(rune('a'+c.next(26))), ".", i), Sort: 1 + c.next(2), Kind: c.next(8), Def: -1}
		if c.next(3) == 0 {
			s.Kind = 0
		}
		if c.yes() {
			s.Local = c.yes()
			s.Def = len(o.Datas)
			if s.Sort == api.SymFunc {
				s.Def = len(o.Funcs)
				o.Funcs = append(o.Funcs, api.Func{Class: s.Kind})
			} else {
				o.Datas = append(o.Datas, api.Data{Kind: s.Kind})
			}
		}
		o.Symbols = append(o.Symbols, s)
	}
	for i := range o.Datas {
		c.fill(&o.Datas[i], o.Symbols)
	}
	for i := range o.Funcs {
		c.build(&o.Funcs[i], o.Symbols)
	}
	return o
}

func (c *chance) fill(d *api.Data, l []api.Symbol) {
	d.Words = make([]int64, c.next(5))
	for at := range d.Words {
		if d.Kind == api.Number {
			d.Words[at] = int64(c.next(1<<31)) * int64(c.next(1<<31)) * int64(c.next(3)-1)
		} else if sym := c.one(l, api.SymFunc, d.Kind-1); sym >= 0 && c.yes() {
			d.Relocs = append(d.Relocs, api.Reloc{At: at, Sym: sym, Wide: c.yes()})
		}
	}
}

// one is the place of some symbol of the sort and kind; -1: there is none.
func (c *chance) one(l []api.Symbol, sort, kind int) int {
	var places []int
	for sym, s := range l {
		if s.Sort == sort && s.Kind == kind {
			places = append(places, sym)
		}
	}
	if len(places) == 0 {
		return -1
	}
	return places[c.next(len(places))]
}

// build gives the function three slots of numbers, some of functions, and code.
func (c *chance) build(f *api.Func, l []api.Symbol) {
	f.Kinds = append([]int{0, 0, 0}, 1, 2, 3, 4, 5, 6, 7, 8)
	f.Nosplit = c.yes()
	if c.yes() {
		f.Pad = c.next(4097)
	}
	for range c.next(7) {
		c.add(f, l)
	}
	f.Code = append(f.Code, last)
	if slices.ContainsFunc(f.Code, func(x api.Instr) bool { return x.Op == api.OpDefer }) || c.next(4) == 0 {
		f.To = len(f.Code)
	} else if c.yes() {
		f.From = c.next(len(f.Code))
		f.To = f.From + c.next(len(f.Code)-f.From)
	}
	for at := range f.Code {
		if at == 0 && c.yes() || len(f.Lines) > 0 && c.yes() {
			f.Lines = append(f.Lines, api.Line{At: at, Line: c.next(65536)})
		}
	}
}

// add adds an instruction, with its reference, if there is what it could refer to.
func (c *chance) add(f *api.Func, l []api.Symbol) {
	class := c.next(8)
	slot := class + 3
	own := []api.Instr{{Op: api.OpNop}, {Op: api.OpSet, A: c.next(3), N: int64(c.next(1<<31)) - 1<<30}, {Op: api.OpSub, A: c.next(3), B: c.next(3), C: c.next(3)}, {Op: api.OpZero, A: c.next(3)}, {Op: api.OpOut, A: c.next(3)}, {Op: api.OpVia, B: slot, C: class}, {Op: api.OpRecover, B: 2}}
	needy := []struct {
		x          api.Instr
		sort, kind int
	}{{api.Instr{Op: api.OpLoad, A: 1}, api.SymData, 0}, {api.Instr{Op: api.OpStore, A: 2}, api.SymData, 0}, {api.Instr{Op: api.OpFunc, A: slot}, api.SymFunc, class}, {api.Instr{Op: api.OpPick, A: slot}, api.SymData, 1 + class}, {api.Instr{Op: api.OpCall}, api.SymFunc, class}, {api.Instr{Op: api.OpDefer}, api.SymFunc, class % 2 * 2}}
	x := own[c.next(len(own))]
	if c.yes() {
		n := needy[c.next(len(needy))]
		if sym := c.one(l, n.sort, n.kind); sym >= 0 {
			x = n.x
			f.Relocs = append(f.Relocs, api.Reloc{At: len(f.Code), Sym: sym, Wide: c.yes()})
		}
	}
	f.Code = append(f.Code, x)
}

// oracle is an object's text by the document's words.
func oracle(o api.Object) []string {
	var l []string
	for _, s := range o.Symbols {
		words := ""
		if s.Def < 0 {
			words = "extern "
		}
		if s.Sort == api.SymData {
			words += "data " + s.Name + " " + kinds[s.Kind]
		} else {
			words += "proc " + s.Name + " " + kinds[1:][s.Kind]
		}
		if s.Local {
			words += " local"
		}
		switch {
		case s.Def < 0:
			l = append(l, words)
		case s.Sort == api.SymData:
			l = append(append(l, words), wordsOracle(o.Datas[s.Def], o.Symbols)...)
		default:
			if o.Funcs[s.Def].Nosplit {
				words += " nosplit"
			}
			l = append(append(l, words), codeOracle(o.Funcs[s.Def], o.Symbols)...)
		}
	}
	return l
}

// target is what stands behind the place at.
func target(refs []api.Reloc, at int, l []api.Symbol) string {
	for _, x := range refs {
		if x.At == at && x.Wide {
			return " @" + l[x.Sym].Name
		}
		if x.At == at {
			return " @" + l[x.Sym].Name + " short"
		}
	}
	return ""
}

func wordsOracle(d api.Data, symbols []api.Symbol) []string {
	var l []string
	for at, n := range d.Words {
		s := target(d.Relocs, at, symbols)
		if s == "" {
			s = " nil"
		}
		if d.Kind == 0 {
			s = fmt.Sprint(" ", n)
		}
		l = append(l, "word"+s)
	}
	return l
}

func codeOracle(f api.Func, symbols []api.Symbol) []string {
	var l []string
	if f.Pad > 0 {
		l = append(l, fmt.Sprintf("pad %d", f.Pad))
	}
	if f.To > 0 {
		l = append(l, fmt.Sprintf("range %d %d", f.From, f.To))
	}
	l = append(l, "slots n n n f0 f0r f1 f1r f2 f2r f3 f3r")
	names := map[int]string{api.OpNop: "nop", api.OpSet: "set A N", api.OpSub: "sub A B C", api.OpZero: "zero A N", api.OpOut: "out A", api.OpVia: "via A B K", api.OpRecover: "recover A B", api.OpLoad: "load A B", api.OpStore: "store A B", api.OpFunc: "func A", api.OpPick: "pick A B", api.OpCall: "call A", api.OpDefer: "defer A", api.OpReturn: "return A"}
	for at, x := range f.Code {
		for _, y := range f.Lines {
			if y.At == at {
				l = append(l, fmt.Sprintf("line %d", y.Line))
			}
		}
		s := strings.NewReplacer("A", fmt.Sprint(x.A), "B", fmt.Sprint(x.B), "C", fmt.Sprint(x.C), "N", fmt.Sprint(x.N), "K", kinds[1:][x.C%8]).Replace(names[x.Op])
		l = append(l, s+target(f.Relocs, at, symbols))
	}
	return l
}

// P22.1, P22.2: many objects are shown as the oracle tells, parsed as they were, and shown again.
func TestMany(t *testing.T) {
	c := chance(31)
	for range 10000 {
		o := c.some()
		l := oracle(o)
		shows(t, o, l...)
		again, _, _ := asm.Parse(lines(l...))
		shows(t, again, l...)
		if t.Failed() {
			return
		}
	}
}

// P22.2: the greatest object that may be.
func TestGreatest(t *testing.T) {
	var o api.Object
	for i := range 32 {
		s := api.Symbol{Name: fmt.Sprintf("%s%02d", strings.Repeat("n", 22), i), Sort: api.SymFunc, Def: -1}
		if i < 12 {
			s.Def = i
			o.Funcs = append(o.Funcs, api.Func{Kinds: make([]int, 16), Pad: 4096, Nosplit: true, Code: slices.Repeat([]api.Instr{last}, 64), To: 64})
			for at := range 16 {
				o.Funcs[i].Lines = append(o.Funcs[i].Lines, api.Line{At: at, Line: 65535})
			}
		} else if i < 20 {
			s.Sort, s.Kind, s.Def = api.SymData, 1, i-12
			o.Datas = append(o.Datas, api.Data{Kind: 1, Words: make([]int64, 32)})
			for at := range 32 {
				o.Datas[i-12].Relocs = append(o.Datas[i-12].Relocs, api.Reloc{At: at, Sym: 31})
			}
		}
		o.Symbols = append(o.Symbols, s)
	}
	s, e, at := show.Text(o)
	if e != api.OK || at != -1 {
		t.Fatalf("Text = %v, %d", e, at)
	}
	const n = 32 + 12*(3+16+64) + 8*32
	if got := show.Count(o); got != n || strings.Count(s, "\n") != n {
		t.Errorf("Count = %d; want %d", got, n)
	}
	if again, lines, e := asm.Parse(s); told(again) != told(o) || lines != n || e != api.OK {
		t.Errorf("Parse = %d, %v", lines, e)
	}
}

// The rules: no list that is handed in is changed, and the answer hangs on the object alone.
func TestChanges(t *testing.T) {
	o, l := play()
	kept, _ := play()
	for range 2 {
		shows(t, o, l...)
		if told(o) != told(kept) {
			t.Errorf("%+v is changed", o)
		}
	}
}

// P7: each call ends at all arguments, and tells what object.Check tells.
func TestEnds(t *testing.T) {
	c := chance(32)
	pick := func() int { return numbers()[c.next(len(numbers()))] }
	for range 20000 {
		var o api.Object
		for range c.next(6) {
			name := odds()[c.next(len(odds()))]
			if c.yes() {
				name = fmt.Sprint("s", c.next(9))
			}
			x := api.Symbol{Name: name, Local: c.yes(), Sort: pick(), Kind: pick(), Def: pick()}
			if show.Symbol(x, true) != "" && x.Sort != api.SymFunc && x.Sort != api.SymData {
				t.Errorf("Symbol(%+v)", x)
			}
			o.Symbols = append(o.Symbols, x)
		}
		for range c.next(3) {
			o.Funcs = append(o.Funcs, api.Func{Class: pick(), Kinds: []int{pick()}, Pad: pick(), From: pick(), To: pick(), Lines: []api.Line{{At: pick(), Line: pick()}}, Code: []api.Instr{{Op: pick(), A: pick(), B: pick(), C: pick(), N: int64(pick())}}, Relocs: []api.Reloc{{At: pick(), Sym: pick()}}})
		}
		for range c.next(3) {
			o.Datas = append(o.Datas, api.Data{Kind: pick(), Words: []int64{int64(pick())}, Relocs: []api.Reloc{{At: pick(), Sym: pick()}}})
		}
		if e, at := object.Check(o); e != api.OK {
			refuses(t, o, e, at)
		}
	}
}

// P7: what is much is refused in time.
func TestMuch(t *testing.T) {
	const n = 1 << 20
	refuses(t, api.Object{Symbols: make([]api.Symbol, n), Funcs: make([]api.Func, n), Datas: make([]api.Data, n)}, api.ErrMany, -1)
	refuses(t, one(api.Func{Kinds: make([]int, n), Code: make([]api.Instr, n), Lines: make([]api.Line, n), Relocs: make([]api.Reloc, n)}), api.ErrLong, 0)
	refuses(t, one(api.Func{Code: slices.Repeat([]api.Instr{last}, n)}), api.ErrLong, 0)
	refuses(t, api.Object{Symbols: []api.Symbol{{Name: "d", Sort: api.SymData}}, Datas: []api.Data{{Words: make([]int64, n)}}}, api.ErrLong, 0)
	name := strings.Repeat("a", n)
	declares(t, api.Symbol{Name: name, Sort: api.SymFunc}, "proc "+name+" f0", "proc "+name+" f0 nosplit")
	if s, e, at := show.Text(api.Object{Symbols: []api.Symbol{{Name: name, Sort: api.SymFunc, Def: -1}}}); s != "" || e != api.ErrLong || at != 0 {
		t.Errorf("Text = %q, %v, %d", s, e, at)
	}
}
