package asm_test

import (
	"fmt"
	"regexp"
	"slices"
	"strconv"
	"strings"
	"testing"

	"sheerleg/api"
	"sheerleg/asm"
	"sheerleg/line"
	"sheerleg/object"
	"sheerleg/op"
)

// kinds are the texts of the kinds, by kinds.
var kinds = []string{"n", "f0", "f0r", "f1", "f1r", "f2", "f2r", "f3", "f3r"}

// last returns from functions that do not answer, or answers the first slot.
var last = api.Instr{Op: api.OpReturn}

// lines is a text of these lines, each with its end.
func lines(l ...string) string {
	if len(l) == 0 {
		return ""
	}
	return strings.Join(l, "\n") + "\n"
}

// told is an object as a text in which empty lists are as nil ones.
func told(o api.Object) string {
	return fmt.Sprintf("%+v", o)
}

// gives holds Parse against what it should answer.
func gives(t *testing.T, s string, o api.Object, n int, e api.Errno) {
	t.Helper()
	if got, at, why := asm.Parse(s); told(got) != told(o) || at != n || why != e {
		t.Errorf("Parse(%q) = %+v, %d, %v; want %+v, %d, %v", s, got, at, why, o, n, e)
	}
}

// parses holds Parse of a right text of these lines against its object.
func parses(t *testing.T, o api.Object, l ...string) {
	t.Helper()
	gives(t, lines(l...), o, len(l), api.OK)
}

// refuses holds Parse of these lines against an error, and the place of the line that is wrong.
func refuses(t *testing.T, e api.Errno, at int, l ...string) {
	t.Helper()
	gives(t, lines(l...), api.Object{}, at, e)
}

// declares holds Parse of one line against the one symbol of its object.
func declares(t *testing.T, l string, s api.Symbol) {
	t.Helper()
	o := api.Object{Symbols: []api.Symbol{s}}
	if s.Def == 0 && s.Sort == api.SymData {
		o.Datas = []api.Data{{Kind: s.Kind}}
	}
	gives(t, l, o, 1, api.OK)
}

// takes holds Parse of a function of class f0, of these lines and a return behind them, against the function.
func takes(t *testing.T, f api.Func, l ...string) {
	t.Helper()
	f.Code = append(f.Code, last)
	o := api.Object{Symbols: []api.Symbol{{Name: "f", Sort: api.SymFunc}}, Funcs: []api.Func{f}}
	parses(t, o, slices.Concat([]string{"proc f f0"}, l, []string{"return 0"})...)
}

// refusesIn is refuses of a function of class f0 with these lines; at is the place among these.
func refusesIn(t *testing.T, e api.Errno, at int, l ...string) {
	t.Helper()
	refuses(t, e, 1+at, slices.Concat([]string{"proc f f0"}, l, []string{"return 0"})...)
}

// play is a text of all that may stand in one, and its object.
func play() ([]string, api.Object) {
	return []string{
		"# all of it", "",
		"proc main f0r",
		"pad 70", "range 2 10", "slots n n f1r n",
		"line 3", "set 0 -7",
		"defer 0 @later",
		"load 1 0 @count short",
		"line 5", "call 0 @main short",
		"store 1 0 @count",
		"  # between",
		"func 2 @there",
		"pick 2 0 @table short",
		"via 0 2 f1r",
		"zero 0 8", "line 65535", "return 0",
		"extern proc there f1r",
		"data table f1r",
		"word @there", "word nil", "word @own short",
		"data count n local",
		"word -9223372036854775808", "word 0", "word 9223372036854775807",
		"proc later f1 local nosplit", "slots n", "return 0",
		"extern data far f3r",
		"proc own f1r nosplit", "slots n", "return 0",
		"data none n",
	}, api.Object{
		Symbols: []api.Symbol{
			{Name: "main", Sort: api.SymFunc, Kind: 1}, {Name: "there", Sort: api.SymFunc, Kind: 3, Def: -1}, {Name: "table", Sort: api.SymData, Kind: 4}, {Name: "count", Local: true, Sort: api.SymData, Def: 1},
			{Name: "later", Local: true, Sort: api.SymFunc, Kind: 2, Def: 1}, {Name: "far", Sort: api.SymData, Kind: 8, Def: -1}, {Name: "own", Sort: api.SymFunc, Kind: 3, Def: 2}, {Name: "none", Sort: api.SymData, Def: 2},
		},
		Funcs: []api.Func{
			{
				Class: 1, Kinds: []int{0, 0, 4, 0}, Pad: 70, From: 2, To: 10, Lines: []api.Line{{At: 0, Line: 3}, {At: 3, Line: 5}, {At: 9, Line: 65535}},
				Code:   []api.Instr{{Op: api.OpSet, N: -7}, {Op: api.OpDefer}, {Op: api.OpLoad, A: 1}, {Op: api.OpCall}, {Op: api.OpStore, A: 1}, {Op: api.OpFunc, A: 2}, {Op: api.OpPick, A: 2}, {Op: api.OpVia, B: 2, C: 3}, {Op: api.OpZero, N: 8}, last},
				Relocs: []api.Reloc{{At: 1, Sym: 4, Wide: true}, {At: 2, Sym: 3}, {At: 3, Sym: 0}, {At: 4, Sym: 3, Wide: true}, {At: 5, Sym: 1, Wide: true}, {At: 6, Sym: 2}},
			},
			{Class: 2, Kinds: []int{0}, Nosplit: true, Code: []api.Instr{last}},
			{Class: 3, Kinds: []int{0}, Nosplit: true, Code: []api.Instr{last}},
		},
		Datas: []api.Data{
			{Kind: 4, Words: []int64{0, 0, 0}, Relocs: []api.Reloc{{At: 0, Sym: 1, Wide: true}, {At: 2, Sym: 6}}},
			{Words: []int64{-1 << 63, 0, 1<<63 - 1}},
			{},
		},
	}
}

// Example 1, the empty text, and a text of all that may stand in one.
func TestRight(t *testing.T) {
	main := api.Object{Symbols: []api.Symbol{{Name: "main", Sort: api.SymFunc, Kind: 1}}, Funcs: []api.Func{{Class: 1, Kinds: []int{0}, Code: []api.Instr{{Op: api.OpSet, N: 7}, last}}}}
	parses(t, main, "proc main f0r", "slots n", "set 0 7", "return 0")
	gives(t, "proc main f0r\nslots n\nset 0 7\nreturn 0", main, 4, api.OK)
	gives(t, "", api.Object{}, 0, api.OK)
	l, o := play()
	parses(t, o, l...)
	gives(t, strings.Join(l, "\n"), o, len(l), api.OK)
}

// P21.1, written out.
func TestNamesNamed(t *testing.T) {
	for _, x := range []struct {
		s    string
		want []string
	}{
		{"", nil}, {"\n\n", nil}, {" ", nil}, {"#", nil}, {"# data d n", nil}, {"#data d n", nil}, {"  #data d", nil},
		{"data", nil}, {"proc", nil}, {"extern", nil}, {"extern data", nil}, {"extern proc", nil}, {"data ", nil}, {"extern data ", nil},
		{"data d", []string{"d"}}, {"proc p", []string{"p"}}, {"extern data d", []string{"d"}}, {"extern proc p", []string{"p"}},
		{"data d n", []string{"d"}}, {"proc p f0 local nosplit", []string{"p"}}, {"extern proc p f0", []string{"p"}}, {"data d n n n n n", []string{"d"}},
		{"extern what ever", []string{"ever"}}, {"extern extern extern", []string{"extern"}}, {"data data", []string{"data"}}, {"proc #", []string{"#"}}, {"extern # @", []string{"@"}}, {"proc @f", []string{"@f"}},
		{" data   d  n", []string{"d"}}, {"   extern  data   d  ", []string{"d"}},
		{"Data d\nPROC p\nexterns a b\ndata: d\nxdata d\nproc, p\ndatad d", nil}, {"\tdata d\ndata\td\n\xa0proc p", nil},
		{"set 0 7\nword @d\npad 1\nline data\nnop data d", nil}, {"word data d", nil},
		{"data b n\ndata a n\nproc b f0\nextern data a\n\n# c\ndata\ndata c", []string{"b", "a", "b", "a", "c"}},
		{"proc p\r\ndata \xff\nextern \x00 \u00e4", []string{"p\r", "\xff", "\u00e4"}},
	} {
		if got := asm.Names(x.s); !slices.Equal(got, x.want) {
			t.Errorf("Names(%q) = %q; want %q", x.s, got, x.want)
		}
	}
	l, _ := play()
	if got := asm.Names(lines(l...)); !slices.Equal(got, []string{"main", "there", "table", "count", "later", "far", "own", "none"}) {
		t.Errorf("Names = %q", got)
	}
}

var wordsOf = regexp.MustCompile("[^ ]+")

// split is the words of each line of s.
func split(s string) [][]string {
	var l [][]string
	for _, own := range strings.Split(strings.TrimSuffix(s, "\n"), "\n") {
		l = append(l, wordsOf.FindAllString(own, -1))
	}
	if s == "" {
		return nil
	}
	return l
}

// namesOracle goes by the document's words.
func namesOracle(s string) []string {
	var names []string
	for _, words := range split(s) {
		l := append(words, "", "", "")
		if l[0] == "extern" && l[2] != "" {
			names = append(names, l[2])
		}
		if (l[0] == "data" || l[0] == "proc") && l[1] != "" {
			names = append(names, l[1])
		}
	}
	return names
}

// P21.1: lines of all few words, alone and behind one another.
func TestNames(t *testing.T) {
	words := []string{"extern", "data", "proc", "word", "local", "#", "@", "n", "\xff", "", " "}
	var each []string
	for _, a := range words {
		for _, b := range words {
			for _, c := range words {
				each = append(each, a+" "+b+" "+c, a+" "+b+" "+c+" data d")
			}
		}
	}
	for _, s := range append(each, strings.Join(each, "\n"), lines(each...)) {
		if got, want := asm.Names(s), namesOracle(s); !slices.Equal(got, want) {
			t.Errorf("Names(%q) = %q; want %q", s, got, want)
		}
	}
}

// P21.2: each declaration, of each kind; with too few words, too many, and words that are none.
func TestDeclarations(t *testing.T) {
	for kind, text := range kinds {
		declares(t, "extern data d "+text, api.Symbol{Name: "d", Sort: api.SymData, Kind: kind, Def: -1})
		declares(t, "data d "+text, api.Symbol{Name: "d", Sort: api.SymData, Kind: kind})
		declares(t, "data d "+text+" local", api.Symbol{Name: "d", Sort: api.SymData, Kind: kind, Local: true})
		if kind > 0 {
			declares(t, "extern proc d "+text, api.Symbol{Name: "d", Sort: api.SymFunc, Kind: kind - 1, Def: -1})
		}
		for _, wrong := range []string{
			"extern data", "extern data " + text, "extern data d", "extern data d " + text + " local", "extern data d " + text + " nosplit", "extern data d " + text + " #", "extern data d " + text + " " + text, "extern d " + text, "extern x d " + text, "extern word d " + text, "extern extern d " + text, "extern Data d " + text, "extern # d " + text,
			"data", "data d", "data " + text, "data d " + text + " nosplit", "data d " + text + " local nosplit", "data d " + text + " local local", "data d " + text + " x", "data d " + text + " Local", "data d " + text + " local #", "data d local " + text, "data local d " + text, "data d " + text + "local", "Data d " + text, "data: d " + text, "d " + text,
		} {
			refuses(t, api.ErrForm, 0, wrong)
			refuses(t, api.ErrForm, 2, "data other n", "", wrong)
		}
	}
	for _, name := range []string{"local", "nosplit", "data", "proc", "extern", "n", "f0", "word", "nil", "short", "nop", "_", ".", "a.f2", strings.Repeat("a", 24)} {
		declares(t, "data "+name+" n", api.Symbol{Name: name, Sort: api.SymData})
		declares(t, "data "+name+" n local", api.Symbol{Name: name, Sort: api.SymData, Local: true})
		declares(t, "extern proc "+name+" f0", api.Symbol{Name: name, Sort: api.SymFunc, Def: -1})
	}
	for _, none := range []string{"N", "F0", "f", "f4", "f00", "f0R", "f-1", "0", "1", "f0rr", "nn", "n,", "f0r\r", "\tn", "\x00", "\xff", "\u00e4", "local", "@", "#", "nil"} {
		for _, s := range []string{"extern proc", "extern data", "data", "proc", "extern"} {
			refuses(t, api.ErrForm, 0, s+" d "+none)
		}
	}
	// A class is that of a kind of functions.
	refuses(t, api.ErrForm, 0, "extern proc f n")
	refuses(t, api.ErrForm, 0, "proc f n", "return 0")
	refuses(t, api.ErrForm, 1, "", "proc f n local nosplit")
}

// P21.2: functions, of each class, with and without local and nosplit.
func TestFunctions(t *testing.T) {
	for class, text := range kinds[1:] {
		f := api.Func{Class: class, Kinds: []int{0, 0, 0}, Code: []api.Instr{last}}
		s := api.Symbol{Name: "f", Sort: api.SymFunc, Kind: class}
		for _, more := range []string{"", " local", " nosplit", " local nosplit"} {
			s.Local, f.Nosplit = strings.Contains(more, "local"), strings.Contains(more, "nosplit")
			parses(t, api.Object{Symbols: []api.Symbol{s}, Funcs: []api.Func{f}}, "proc f "+text+more, "slots n n n", "return 0")
		}
		for _, wrong := range []string{"proc", "proc f", "proc " + text, "proc f " + text + " nosplit local", "proc f " + text + " local local", "proc f " + text + " nosplit nosplit", "proc f " + text + " local nosplit x", "proc f " + text + " local nosplit local", "proc f " + text + " x", "proc f " + text + " #", "proc f " + text + " no split", "proc f local " + text, "proc f " + text + " Local", "proc f " + text + " NOSPLIT", "proc f " + text + " local @f"} {
			refuses(t, api.ErrForm, 0, wrong, "slots n n n", "return 0")
		}
	}
}

// P21.2: a Def is how many ahead of that sort were defined; what another file defines does not count.
func TestDefs(t *testing.T) {
	o, n, e := asm.Parse(lines("extern proc a f0", "data b n", "proc c f0", "return 0", "extern data d n", "data e n", "proc f f0", "return 0", "data g n", "extern proc h f0", "proc i f0", "return 0"))
	if n != 12 || e != api.OK || len(o.Funcs) != 3 || len(o.Datas) != 3 {
		t.Fatal(o, n, e)
	}
	var defs []int
	for _, s := range o.Symbols {
		defs = append(defs, s.Def)
	}
	if !slices.Equal(defs, []int{-1, 0, 0, -1, 1, 1, 2, -1, 2}) {
		t.Error(defs)
	}
}

// P21.2: words of data that are numbers.
func TestNumbers(t *testing.T) {
	d := api.Data{}
	l := []string{"data d n"}
	for _, n := range []int64{0, 1, -1, 9, 10, -10, 255, 256, -65536, 1 << 32, -1 << 32, 1<<63 - 1, -1 << 63} {
		d.Words = append(d.Words, n)
		l = append(l, "word "+strconv.FormatInt(n, 10))
		parses(t, api.Object{Symbols: []api.Symbol{{Name: "d", Sort: api.SymData}}, Datas: []api.Data{d}}, l...)
	}
	for _, wrong := range append(noDecimals(), "nil", "@d", "@", "@d short", "7 short", "7 7", "7 #", "") {
		refuses(t, api.ErrForm, 2, "data d n", "word 7", "word "+wrong, "word 8")
	}
	for _, wrong := range []string{"Word 7", "words 7", "word7", "7", "@d", "nil", "word\t7", "set 0 7", "nop", "line 7", "pad 7", "range 0 0", "slots n"} {
		refuses(t, api.ErrForm, 1, "data d n", wrong)
	}
}

// noDecimals are words, or some, that are no decimal.
func noDecimals() []string {
	return []string{"", "+7", "07", "-0", "00", "-", "--7", "7-", "7.", "7.0", "1e3", "0x7", "0b1", "7_0", "1,000", "seven", "n", "7n", "\u0667", "\xff", "\x007", "7\r", "\t7", "9223372036854775808", "-9223372036854775809", "18446744073709551616", "99999999999999999999999", "7 8 9"}
}

// P21.2: words of data that are functions: nil, and a name, with and without short.
func TestReferring(t *testing.T) {
	for class, text := range kinds[1:] {
		o := api.Object{Symbols: []api.Symbol{{Name: "d", Sort: api.SymData, Kind: 1 + class}, {Name: "short", Sort: api.SymFunc, Kind: class, Def: -1}, {Name: "nil", Sort: api.SymFunc, Kind: class, Def: -1}}}
		o.Datas = []api.Data{{Kind: 1 + class, Words: []int64{0, 0, 0, 0, 0}, Relocs: []api.Reloc{{At: 1, Sym: 1}, {At: 2, Sym: 1, Wide: true}, {At: 4, Sym: 2, Wide: true}}}}
		parses(t, o, "data d "+text, "word nil", "word @short short", "word @short", "word nil", "word @nil", "extern proc short "+text, "extern proc nil "+text)
		for _, wrong := range []string{"", "0", "7", "-1", "Nil", "NIL", "nil short", "nil nil", "nil #", "nil @f", "f", "f short", "@f Short", "@f wide", "@f short short", "@f short #", "@f @f", "@f nil", "@f 0", "short", "short @f", "@ f", "@f,", "\u0040f x", "nil@f", "\xff"} {
			e := api.ErrForm
			if wrong == "@f," {
				e = api.ErrNone
			}
			refuses(t, e, 2, "data d "+text, "word nil", "word "+wrong, "extern proc f "+text)
		}
		for _, none := range []string{"@", "@g", "@@f", "@F", "@ff", "@f\t", "@\xff", "@d@", "@nil", "@short", "@word"} {
			refuses(t, api.ErrNone, 1, "data d "+text, "word "+none, "word 7", "extern proc f "+text)
			refuses(t, api.ErrNone, 1, "data d "+text, "word "+none+" short", "word 7", "extern proc f "+text)
			refuses(t, api.ErrForm, 1, "data d "+text, "word "+none+" long", "word 7", "extern proc f "+text)
		}
	}
	// Of another class, and of data, the lines are right.
	refuses(t, api.ErrKind, 3, "data d f0", "word @f", "extern proc f f0r")
	refuses(t, api.ErrKind, 2, "data d f0", "word @d short")
}

// P21.2: what stands behind no item's declaration: at the beginning, and behind what another file defines.
func TestOutside(t *testing.T) {
	for _, s := range []string{"word 7", "word nil", "word @f", "pad 7", "range 0 0", "slots n", "line 7", "nop", "return 0", "set 0 7", "set 0 9999999999", "call 0 @f", "call 0 @g", "@f", "local", "nosplit", "x", "\xff"} {
		refuses(t, api.ErrForm, 0, s, "extern proc f f0")
		refuses(t, api.ErrForm, 1, "extern proc f f0", s)
		refuses(t, api.ErrForm, 1, "extern data f n", s)
		refuses(t, api.ErrForm, 3, "proc f f0", "return 0", "extern proc g f0", s)
		refuses(t, api.ErrForm, 2, "data f n", "extern data g n", s)
	}
}

// P21.2: pad, range and slots, each there or not; what is not said is 0.
func TestParts(t *testing.T) {
	takes(t, api.Func{})
	for i := range 8 {
		var f api.Func
		var l []string
		if i&1 > 0 {
			f.Pad, l = 4096, append(l, "pad 4096")
		}
		if i&2 > 0 {
			f.From, f.To, l = 0, 1, append(l, "range 0 1")
		}
		if i&4 > 0 {
			f.Kinds, l = []int{0, 8, 1}, append(l, "slots n f3r f0")
		}
		takes(t, f, l...)
	}
	takes(t, api.Func{From: 1, To: 1}, "range 1 1")
	takes(t, api.Func{}, "pad 0", "range 0 0")
	takes(t, api.Func{Kinds: []int{0, 1, 2, 3, 4, 5, 6, 7, 8}}, "slots "+strings.Join(kinds, " "))
	takes(t, api.Func{Kinds: make([]int, 16)}, "slots"+strings.Repeat(" n", 16))
}

// P21.2: pad, range and slots twice, in another order, behind an instruction and behind a line's number.
func TestOrder(t *testing.T) {
	parts := []string{"pad 1", "range 0 0", "slots n"}
	for i, late := range parts {
		for _, ahead := range parts[i:] {
			refusesIn(t, api.ErrForm, 1, ahead, late)
		}
		for _, ahead := range []string{"nop", "return 0", "line 7", "set 0 7", "call 0 @f"} {
			refusesIn(t, api.ErrForm, 1, ahead, late)
			refusesIn(t, api.ErrForm, 4, "pad 1", "range 0 1", "slots n", ahead, late)
		}
		refusesIn(t, api.ErrForm, 3, "pad 1", "range 0 1", "slots n", late)
		refuses(t, api.ErrForm, 1, "data d f0", late)
		refuses(t, api.ErrForm, 2, "data d f0", "word nil", late)
	}
	refusesIn(t, api.ErrForm, 0, "word 7")
	refusesIn(t, api.ErrForm, 0, "word nil")
	refusesIn(t, api.ErrForm, 1, "slots n", "word @f")
	// A next function begins anew.
	f := api.Func{Pad: 1, Kinds: []int{0}, Code: []api.Instr{last}}
	parses(t, api.Object{Symbols: []api.Symbol{{Name: "f", Sort: api.SymFunc}, {Name: "g", Sort: api.SymFunc, Def: 1}}, Funcs: []api.Func{f, f}}, "proc f f0", "pad 1", "slots n", "return 0", "proc g f0", "pad 1", "slots n", "return 0")
}

// P21.2: decimals that are none, and numbers that are too many or too few, of pad, range and line; kinds that are none.
func TestNoDecimals(t *testing.T) {
	for _, wrong := range noDecimals() {
		refusesIn(t, api.ErrForm, 0, "pad "+wrong)
		refusesIn(t, api.ErrForm, 0, "line "+wrong)
		refusesIn(t, api.ErrForm, 0, "range "+wrong+" 1")
		refusesIn(t, api.ErrForm, 0, "range 0 "+wrong)
		refusesIn(t, api.ErrForm, 0, "range "+wrong)
	}
	for _, wrong := range []string{"pad", "pad 1 1", "pad 1 #", "range", "range 0", "range 0 0 0", "range 0 1 #", "line", "line 1 1", "line 1 nop", "line @f", "slots", "slots N", "slots n n x n", "slots n,n", "slots f4", "slots nil", "slots 0", "slots n #", "slots \xff", "slots @f", "pad1", "Pad 1", "lines 7", "slot n", "ranges 0 1"} {
		refusesIn(t, api.ErrForm, 0, wrong)
		refusesIn(t, api.ErrForm, 0, wrong, "also wrong")
	}
	// A number outside of its bounds is one: the line is right.
	for _, wrong := range []string{"pad -1", "pad 4097", "pad 9223372036854775807", "pad -9223372036854775808", "range 1 0", "range -1 0", "range 0 2", "range 0 9223372036854775807", "range -9223372036854775808 0", "line -1", "line 65536", "line 4294967296", "line 9223372036854775807", "line -9223372036854775808"} {
		refusesIn(t, api.ErrRange, 2, wrong)
	}
}

// P21.2: line and a number ahead of instructions; twice, and at the end, what they say may not be.
func TestLines(t *testing.T) {
	nop := api.Instr{Op: api.OpNop}
	takes(t, api.Func{Lines: []api.Line{{At: 0, Line: 7}}}, "line 7")
	takes(t, api.Func{Lines: []api.Line{{At: 0, Line: 0}, {At: 2, Line: 65535}}, Code: []api.Instr{nop, nop}}, "line 0", "nop", "nop", "line 65535")
	takes(t, api.Func{Pad: 1, Kinds: []int{0}, Lines: []api.Line{{At: 0, Line: 9}, {At: 1, Line: 9}, {At: 2, Line: 1}}, Code: []api.Instr{nop, nop}}, "pad 1", "slots n", "line 9", "nop", "line 9", "nop", "line 1")
	var f api.Func
	var l []string
	for at := range 16 {
		f.Lines = append(f.Lines, api.Line{At: at, Line: at})
		l = append(l, "line "+strconv.Itoa(at))
		if at < 15 {
			f.Code = append(f.Code, nop)
			l = append(l, "nop")
		}
	}
	takes(t, f, l...)
	refusesIn(t, api.ErrLong, 34, slices.Concat(l, []string{"nop", "line 16"})...)
	// Not at the first instruction; twice at one; behind the last one.
	refusesIn(t, api.ErrRange, 3, "nop", "line 7")
	refusesIn(t, api.ErrRange, 3, "line 7", "line 7")
	refusesIn(t, api.ErrRange, 4, "line 7", "line 8", "nop")
	refuses(t, api.ErrRange, 4, "proc f f0", "line 7", "return 0", "line 8")
	refuses(t, api.ErrRange, 5, "proc f f0", "line 7", "return 0", "line 8", "data d n")
	// With nothing behind there is no code.
	refuses(t, api.ErrForm, 2, "proc f f0", "line 7")
	refuses(t, api.ErrForm, 3, "proc f f0", "line 7", "data d n")
	refuses(t, api.ErrForm, 1, "data d n", "line 7")
	refuses(t, api.ErrForm, 0, "line 7")
}

// P21.2: instructions that need no reference; all that objects may have, with line.Parse's error of what may not be.
func TestInstructions(t *testing.T) {
	for code := api.OpNop; code <= api.OpReturn; code++ {
		own, e := line.Text(api.Instr{Op: code})
		if e != api.OK {
			t.Fatal(own, e)
		}
		if op.Need(code) > 0 {
			continue
		}
		for _, wrong := range []string{own + " @f", own + " @", own + " @f short", own + " short", own + " #", own + " 0 0 0 0", own + " nil"} {
			refusesIn(t, api.ErrForm, 1, "nop", wrong)
		}
	}
	nop := api.Instr{Op: api.OpNop}
	takes(t, api.Func{Kinds: []int{0, 1}, Code: []api.Instr{nop, {Op: api.OpSet, N: -1 << 31}, {Op: api.OpVia, B: 1}, {Op: api.OpRecover}, {Op: api.OpJump, N: 5}}}, "slots n f0", "nop", "set 0 -2147483648", "via 0 1 f0", "recover 0 0", "jump 5")
	for _, wrong := range []string{"check 0 0", "enter 0 0 0", "bottom", "driver", "Nop", "NOP", "nop,", "no", "nopnop", "set", "set 0", "set 0 07", "set 0 7 7", "via 0 1 n", "via 0 1 0", "via 0 1 f4", "jump", "return", "?", "\xff", "\u00e4", "@f", "@", "local", "short", "nil", "7"} {
		refusesIn(t, api.ErrForm, 0, wrong)
		refusesIn(t, api.ErrForm, 1, "nop", wrong, "also wrong")
	}
	for _, wrong := range []string{"set 0 2147483648", "set 0 -2147483649", "set 256 0", "set -1 0", "jump 9999999999", "move 0 256", "add 0 0 -1", "return 9223372036854775807", "out -9223372036854775808", "via 256 0 f0"} {
		refusesIn(t, api.ErrRange, 0, wrong)
		refusesIn(t, api.ErrRange, 1, "nop", wrong, "also wrong")
	}
	// The lines are right, and what they mean is not.
	refusesIn(t, api.ErrRange, 2, "set 0 7")
	refusesIn(t, api.ErrFlow, 2, "jump 2")
	refusesIn(t, api.ErrRange, 3, "range 0 3", "nop")
}

// needy are the operations that need a reference, and what they may refer to.
func needy() map[string][]string {
	return map[string][]string{
		"load 0 0": {"d", "data d n"}, "store 0 0": {"d", "extern data d n"}, "func 1 ": {"g", "extern proc g f0"}, "pick 1 0": {"d", "extern data d f0"}, "call 0": {"g", "extern proc g f1r"}, "defer 0": {"g", "extern proc g f1"},
	}
}

// P21.2: instructions that need a reference, with one, without one, with another one's, and with what stands behind it.
func TestReferences(t *testing.T) {
	for own, to := range needy() {
		name, declaration := to[0], to[1]
		text := func(l ...string) []string {
			return slices.Concat([]string{"proc f f0", "range 0 3", "slots n f0", "nop"}, l, []string{"return 0", declaration})
		}
		for _, more := range []string{"", " short"} {
			o, n, e := asm.Parse(lines(text(own + " @" + name + more)...))
			if n != 7 || e != api.OK || len(o.Funcs) != 1 || !slices.Equal(o.Funcs[0].Relocs, []api.Reloc{{At: 1, Sym: 1, Wide: more == ""}}) || len(o.Funcs[0].Code) != 3 {
				t.Errorf("%s: %+v, %d, %v", own, o, n, e)
			}
		}
		for _, wrong := range []string{"", " " + name, " short", " @" + name + " long", " @" + name + " short short", " @" + name + " @" + name, " @" + name + " 0", " @" + name + " #", " @" + name + " short @" + name, " @ short short", " 0 @" + name, " short @" + name, " @nobody x", " @ " + name, " #@" + name, " x@" + name} {
			refuses(t, api.ErrForm, 4, text(own+wrong, "also wrong")...)
		}
		for _, none := range []string{" @", " @ short", " @nobody", " @nobody short", " @" + name + "@", " @@" + name, " @\xff", " @short", " @nil", " @" + strings.ToUpper(name), " @" + name + "\t"} {
			refuses(t, api.ErrNone, 4, text(own+none, "also wrong")...)
		}
		// What comes ahead of the first @ is read first, and its error comes first.
		words := strings.Fields(own)
		for i := 1; i < len(words); i++ {
			for word, e := range map[string]api.Errno{"256": api.ErrRange, "-1": api.ErrRange, "x": api.ErrForm, "00": api.ErrForm, "@" + name: api.ErrForm, "@": api.ErrForm, "@nobody": api.ErrForm} {
				bad := slices.Clone(words)
				bad[i] = word
				for _, more := range []string{" @" + name, " @nobody", " @", " @" + name + " x", " @ x", " @nobody x x", ""} {
					refuses(t, e, 4, text(strings.Join(bad, " ")+more, "also wrong")...)
				}
			}
			refuses(t, api.ErrForm, 4, text(strings.Join(words[:i], " ")+" @"+name)...)
		}
		refuses(t, api.ErrForm, 4, text("@"+name+" "+own)...)
		refuses(t, api.ErrForm, 4, text("@"+name)...)
		refuses(t, api.ErrForm, 0, own+" @"+name, declaration)
		refuses(t, api.ErrForm, 1, "data x f0", own+" @"+name, declaration)
	}
	// Of another sort the lines are right.
	refuses(t, api.ErrKind, 4, "proc f f0", "slots n", "load 0 0 @f", "return 0")
	refuses(t, api.ErrKind, 4, "proc f f0", "call 0 @d", "return 0", "data d n")
}

// P21.2: a name refers to the first declaration of it, be it ahead or behind; also to that of a line that is wrong.
func TestNamed(t *testing.T) {
	parses(t, api.Object{
		Symbols: []api.Symbol{{Name: "a", Sort: api.SymFunc, Def: -1}, {Name: "f", Sort: api.SymFunc}, {Name: "b", Sort: api.SymFunc, Def: -1}},
		Funcs:   []api.Func{{Code: []api.Instr{{Op: api.OpCall}, {Op: api.OpCall}, {Op: api.OpCall}, last}, Relocs: []api.Reloc{{At: 0, Sym: 2, Wide: true}, {At: 1, Sym: 1}, {At: 2, Sym: 0, Wide: true}}}},
	}, "extern proc a f0", "proc f f0", "call 0 @b", "call 0 @f short", "call 0 @a", "return 0", "extern proc b f0")
	refuses(t, api.ErrTwice, 3, "data d n", "", "data d n")
	refuses(t, api.ErrTwice, 2, "data d n", "extern proc d f0")
	refuses(t, api.ErrTwice, 4, "data d f0", "word @a", "extern proc a f0", "extern data a n")
	// Names of lines that are wrong, or too short, are there, or not, for those ahead.
	refuses(t, api.ErrForm, 3, "proc f f0", "call 0 @g", "return 0", "proc g")
	refuses(t, api.ErrForm, 3, "proc f f0", "call 0 @g", "return 0", "extern x g")
	refuses(t, api.ErrForm, 3, "proc f f0", "call 0 @g", "return 0", "extern proc g f0 x x")
	refuses(t, api.ErrNone, 1, "proc f f0", "call 0 @g", "return 0", "extern g")
	refuses(t, api.ErrNone, 1, "proc f f0", "call 0 @g", "return 0", "# extern proc g f0")
	refuses(t, api.ErrNone, 1, "proc f f0", "call 0 @g", "return 0", "Data g n")
	// A name that is none is found, and then no name.
	refuses(t, api.ErrName, 3, "data d f0", "word @@", "extern proc @ f0")
	refuses(t, api.ErrName, 3, "data d f0", "word @G", "extern proc G f0")
	refuses(t, api.ErrName, 4, "proc f f0", "call 0 @\xff short", "return 0", "extern proc \xff f0")
}

// P21.2: the first line that is wrong is told, whatever is wrong behind it, and of the object.
func TestFirst(t *testing.T) {
	wrong := []struct {
		l string
		e api.Errno
	}{{"x", api.ErrForm}, {"set 0 2147483648", api.ErrRange}, {"call 0 @nobody", api.ErrNone}, {"data", api.ErrForm}, {"pad x", api.ErrForm}, {"call 256 @nobody x", api.ErrRange}}
	for _, first := range wrong {
		for _, second := range wrong {
			refusesIn(t, first.e, 2, "nop", "# here", first.l, second.l)
			refusesIn(t, first.e, 1, "jump 99", first.l, "", second.l, "data f n")
		}
	}
}

// P21.2: the lines are right, and the object may not be: how many lines there are, also those that are left out.
func TestObjects(t *testing.T) {
	for _, x := range []struct {
		e api.Errno
		l []string
	}{
		{api.ErrName, []string{"data D n"}}, {api.ErrName, []string{"data 0 n"}}, {api.ErrName, []string{"data # n"}}, {api.ErrName, []string{"proc a@ f0", "return 0"}}, {api.ErrName, []string{"extern data \u00e4 n"}}, {api.ErrName, []string{"data \xff n"}}, {api.ErrName, []string{"data d\r n"}},
		{api.ErrLong, []string{"data " + strings.Repeat("a", 25) + " n"}},
		{api.ErrForm, []string{"proc f f0"}}, {api.ErrForm, []string{"proc f f0", "slots n"}},
		{api.ErrFlow, []string{"proc f f0", "nop"}}, {api.ErrFlow, []string{"proc f f0", "jump -1"}},
		{api.ErrArg, []string{"proc f f1", "return 0"}}, {api.ErrKind, []string{"proc f f1", "slots f0", "return 0"}},
		{api.ErrRange, []string{"proc f f0r", "return 0"}}, {api.ErrArg, []string{"proc f f0", "slots n n", "return 1"}},
		{api.ErrRange, []string{"proc f f0", "defer 0 @f", "return 0"}},
		{api.ErrClass, []string{"proc f f0r", "range 0 2", "slots n", "defer 0 @f", "return 0"}},
		{api.ErrLong, []string{"proc f f0", "slots" + strings.Repeat(" n", 17), "return 0"}},
		{api.ErrLong, append([]string{"data d n"}, slices.Repeat([]string{"word 7"}, 33)...)},
		{api.ErrLong, append([]string{"proc f f0"}, slices.Repeat([]string{"return 0"}, 65)...)},
		{api.ErrMany, many("extern data d", 33)}, {api.ErrMany, many("data d", 9)}, {api.ErrMany, many("data d", 300)},
	} {
		refuses(t, x.e, len(x.l), x.l...)
		more := slices.Concat([]string{"", "# more"}, x.l, []string{"", " ", "#"})
		refuses(t, x.e, len(more), more...)
		gives(t, strings.Join(x.l, "\n"), api.Object{}, len(x.l), x.e)
		gives(t, strings.Join(x.l, "\n")+"\n ", api.Object{}, 1+len(x.l), x.e)
	}
	for _, l := range [][]string{many("extern data d", 32), many("data d", 8), append([]string{"data d n"}, slices.Repeat([]string{"word 7"}, 32)...), append([]string{"proc f f0"}, slices.Repeat([]string{"return 0"}, 64)...)} {
		if _, n, e := asm.Parse(lines(l...)); n != len(l) || e != api.OK {
			t.Errorf("%d lines: %d, %v", len(l), n, e)
		}
	}
}

// many is so many declarations of numbers, that begin so.
func many(begin string, n int) []string {
	var l []string
	for i := range n {
		l = append(l, fmt.Sprint(begin, i, " n"))
	}
	return l
}

// P21.3: blanks, empty lines and lines that begin with # turn nothing.
func TestLeftOut(t *testing.T) {
	l, o := play()
	for _, out := range []string{"", " ", "     ", "#", "# x", "#x", "   #", " # data d n", "#\xff\x00\t", "##", "#return 0", "# " + strings.Repeat("x ", 500)} {
		var all []string
		for at := range len(l) + 1 {
			parses(t, o, slices.Insert(slices.Clone(l), at, out)...)
			parses(t, o, slices.Insert(slices.Clone(l), at, out, "", out)...)
			if at < len(l) {
				all = append(all, out, l[at], out)
			}
		}
		parses(t, o, all...)
		gives(t, out, api.Object{}, len(line.Split(out)), api.OK)
		gives(t, lines(out, out, out), api.Object{}, 3, api.OK)
	}
	var wide []string
	for _, s := range l {
		wide = append(wide, "  "+strings.ReplaceAll(s, " ", "    ")+"   ")
	}
	parses(t, o, wide...)
	// No other byte parts words, or lines; a word that is not the first may begin with #.
	for _, s := range []string{"\t", "\r", "\v", "\x00", "\u00a0", "\u2003", "\xff", "\t#", "x#", "\r# x", "return\t0", "return 0\r", "return 0 # x", "return 0 #"} {
		refusesIn(t, api.ErrForm, 0, s)
		refuses(t, api.ErrForm, 0, s)
	}
}

// decimalOracle is the number of a decimal.
func decimalOracle(s string) (int64, bool) {
	n, err := strconv.ParseInt(s, 10, 64)
	return n, err == nil && strconv.FormatInt(n, 10) == s
}

// patterns are of the lines that the oracle knows, their words parted by one blank.
var (
	externLine = regexp.MustCompile(`^extern (data|proc) ([^ ]+) ([^ ]+)$`)
	dataLine   = regexp.MustCompile(`^data ([^ ]+) ([^ ]+)( local)?$`)
	procLine   = regexp.MustCompile(`^proc ([^ ]+) ([^ ]+)( local)?( nosplit)?$`)
	target     = regexp.MustCompile(`^@([^ ]*)( short)?$`)
	needs      = regexp.MustCompile(`^(load|store|func|pick|call|defer)( |$)`)
)

// oracle reads texts as the document's words tell, by patterns.
type oracle struct {
	o     api.Object
	names []string
	in    string // the pattern's letter of what came last: d, p and what comes behind p: 1, 2, 3, 4
}

func (r *oracle) symbol(sort, name, kind string, defined, local bool) bool {
	s := api.Symbol{Name: name, Local: local, Sort: api.SymData, Kind: slices.Index(kinds, kind), Def: -1}
	if sort == "proc" {
		s.Sort = api.SymFunc
		s.Kind--
	}
	if defined {
		s.Def = 0
		for _, x := range r.o.Symbols {
			if x.Sort == s.Sort && x.Def >= 0 {
				s.Def++
			}
		}
	}
	r.o.Symbols = append(r.o.Symbols, s)
	return s.Kind >= 0
}

func (r *oracle) declaration(s string) (bool, bool) {
	if m := externLine.FindStringSubmatch(s); m != nil {
		r.in = ""
		return true, r.symbol(m[1], m[2], m[3], false, false)
	}
	if m := dataLine.FindStringSubmatch(s); m != nil {
		r.in = "d"
		r.o.Datas = append(r.o.Datas, api.Data{Kind: slices.Index(kinds, m[2])})
		return true, r.symbol("data", m[1], m[2], true, m[3] != "")
	}
	if m := procLine.FindStringSubmatch(s); m != nil {
		r.in = "p"
		r.o.Funcs = append(r.o.Funcs, api.Func{Class: slices.Index(kinds, m[2]) - 1, Nosplit: m[4] != ""})
		return true, r.symbol("proc", m[1], m[2], true, m[3] != "")
	}
	return false, false
}

func (r *oracle) reference(s string, at int, to *[]api.Reloc) api.Errno {
	m := target.FindStringSubmatch(s)
	if m == nil {
		return api.ErrForm
	}
	sym := slices.Index(r.names, m[1])
	if sym < 0 {
		return api.ErrNone
	}
	*to = append(*to, api.Reloc{At: at, Sym: sym, Wide: m[2] == ""})
	return api.OK
}

func (r *oracle) word(s string) api.Errno {
	d := &r.o.Datas[len(r.o.Datas)-1]
	rest, ok := strings.CutPrefix(s, "word ")
	n, isNumber := decimalOracle(rest)
	if !ok || d.Kind == 0 && !isNumber {
		return api.ErrForm
	}
	if d.Kind > 0 && rest != "nil" {
		if e := r.reference(rest, len(d.Words), &d.Relocs); e != api.OK {
			return e
		}
	}
	if d.Kind > 0 {
		n = 0
	}
	d.Words = append(d.Words, n)
	return api.OK
}

// part is of a line of a function; false: it begins as none of them.
func (r *oracle) part(words []string) (bool, bool) {
	f := &r.o.Funcs[len(r.o.Funcs)-1]
	var l []int
	for _, word := range words[1:] {
		n, ok := decimalOracle(word)
		if words[0] == "slots" {
			n = int64(slices.Index(kinds, word))
			ok = n >= 0
		}
		if !ok {
			l = nil
			break
		}
		l = append(l, int(n))
	}
	now := map[string]string{"pad": "q1", "range": "q2", "slots": "q3", "line": "q4"}[words[0]]
	if now == "" {
		return false, false
	}
	if r.in >= now && now != "q4" {
		return true, false
	}
	r.in = now
	switch {
	case now == "q1" && len(l) == 1:
		f.Pad = l[0]
	case now == "q2" && len(l) == 2:
		f.From, f.To = l[0], l[1]
	case now == "q3" && len(l) > 0:
		f.Kinds = l
	case now == "q4" && len(l) == 1:
		f.Lines = append(f.Lines, api.Line{At: len(f.Code), Line: l[0]})
	default:
		return true, false
	}
	return true, true
}

func (r *oracle) instr(s string) api.Errno {
	f := &r.o.Funcs[len(r.o.Funcs)-1]
	r.in = "q4"
	own, rest := s, ""
	if at := strings.Index(s, " @"); needs.MatchString(s) && at >= 0 {
		own, rest = s[:at], s[at+1:]
	}
	x, e := line.Parse(own)
	if e != api.OK {
		return e
	}
	f.Code = append(f.Code, x)
	if !needs.MatchString(s) {
		return api.OK
	}
	return r.reference(rest, len(f.Code)-1, &f.Relocs)
}

func (r *oracle) read(words []string) api.Errno {
	s := strings.Join(words, " ")
	if s == "" || s[0] == '#' {
		return api.OK
	}
	if is, ok := r.declaration(s); is {
		if !ok {
			return api.ErrForm
		}
		return api.OK
	}
	if slices.Contains([]string{"extern", "data", "proc"}, words[0]) || r.in == "" {
		return api.ErrForm
	}
	if r.in == "d" {
		return r.word(s)
	}
	if is, ok := r.part(words); is {
		if !ok {
			return api.ErrForm
		}
		return api.OK
	}
	return r.instr(s)
}

func parseOracle(s string) (api.Object, int, api.Errno) {
	r := oracle{names: namesOracle(s)}
	l := split(s)
	for i, words := range l {
		if e := r.read(words); e != api.OK {
			return api.Object{}, i, e
		}
	}
	if e, _ := object.Check(r.o); e != api.OK {
		return api.Object{}, len(l), e
	}
	return r.o, len(l), api.OK
}

// chance gives numbers that look as if they hung on nothing, always the same ones.
type chance uint64

func (c *chance) next(n int) int {
	*c = *c*6364136223846793005 + 1442695040888963407
	return int(*c >> 33 % chance(n))
}

func (c *chance) of(l ...string) string {
	return l[c.next(len(l))]
}

// decimal is mostly a small one.
func (c *chance) decimal() string {
	if c.next(8) > 0 {
		return strconv.Itoa(c.next(3))
	}
	return c.of("-1", "255", "256", "65535", "65536", "2147483647", "-2147483648", "2147483648", "9223372036854775807", "-9223372036854775808")
}

// text is lines of declarations, and what comes behind them; most such objects may be.
func (c *chance) text() []string {
	l := []string{"extern proc x0 f0", "extern proc x1 f1", "extern data t f1", "extern data num n"}[c.next(4):]
	for i := range 1 + c.next(4) {
		if c.next(2) == 0 {
			l = append(l, c.data(i)...)
		} else {
			l = append(l, c.function(i)...)
		}
	}
	if c.next(2) == 0 {
		l = append(l, "extern proc y f0", "extern data z n")
	}
	return l
}

func (c *chance) data(i int) []string {
	kind := c.of("n", "f0", "f1")
	l := []string{fmt.Sprint("data d", i, " ", kind, c.of("", " local"))}
	for range c.next(4) {
		if kind == "n" {
			l = append(l, "word "+c.decimal())
		} else {
			l = append(l, c.of("word nil", "word @"+c.of("x0", "x1", "y")+c.of("", " short")))
		}
	}
	return l
}

func (c *chance) function(i int) []string {
	l := []string{fmt.Sprint("proc f", i, " ", c.of("f0", "f0r", "f1", "f2r"), c.of("", " local"), c.of("", " nosplit"))}
	if c.next(2) == 0 {
		l = append(l, "pad "+c.decimal())
	}
	var code []string
	n := 1
	for range c.next(5) {
		if c.next(4) == 0 {
			code = append(code, "line "+c.decimal())
		}
		code = append(code, c.of("nop", "set 0 "+c.decimal(), "add 0 1 0", "zero 1 0", "load 0 1 @num", "store 1 0 @z short", "func 2 @x1", "func 3 @y short", "pick 2 0 @t", "call 0 @"+c.of("x0", "y", "f0", "f1"), "via 0 2 f1", "defer 0 @x0 short", "defer 1 @x1", "recover 0 1", "panic 0"))
		n++
	}
	if c.next(3) > 0 {
		l = append(l, fmt.Sprint("range 0 ", n))
	}
	return slices.Concat(l, []string{"slots n n f1 f0"}, code, []string{"return 0"})
}

// turned is a text of which some lines, or words, are others.
func (c *chance) turned(l []string) []string {
	l = slices.Clone(l)
	for range c.next(3) {
		at := c.next(len(l))
		words := strings.Fields(l[at])
		place := c.next(len(words) + 1)
		odd := c.of("n", "f0", "f4", "local", "nosplit", "short", "nil", "@", "@x0", "@nobody", "data", "extern", "proc", "word", "pad", "range", "slots", "line", "nop", "call", "#", "\xff", c.decimal(), c.decimal())
		switch c.next(7) {
		case 0:
			l = slices.Delete(l, at, at+1)
		case 1:
			l = slices.Insert(l, at, l[c.next(len(l))])
		case 2:
			other := c.next(len(l))
			l[at], l[other] = l[other], l[at]
		case 3:
			l[at] = strings.Join(slices.Insert(words, place, odd), " ")
		case 4:
			l = slices.Insert(l, at, c.of("", "#", " ", "pad 1", "line 1", "range 0 1", "slots n n", "word 7", "extern data d0 n"))
		default:
			if place < len(words) {
				words[place] = odd
				l[at] = strings.Join(words, " ")
			}
		}
		if len(l) == 0 {
			return []string{""}
		}
	}
	return l
}

// P21.1, P21.2: many texts, held against the oracle; each error comes.
func TestMany(t *testing.T) {
	c := chance(21)
	seen := map[api.Errno]int{}
	wrong := 0
	for range 40000 {
		s := lines(c.turned(c.text())...)
		o, n, e := parseOracle(s)
		gives(t, s, o, n, e)
		seen[e]++
		if e != api.OK && n < len(line.Split(s)) {
			wrong++
		}
		if got, want := asm.Names(s), namesOracle(s); !slices.Equal(got, want) {
			t.Errorf("Names(%q) = %q; want %q", s, got, want)
		}
		if t.Failed() {
			return
		}
	}
	for _, e := range []api.Errno{api.OK, api.ErrForm, api.ErrRange, api.ErrNone, api.ErrTwice, api.ErrKind, api.ErrFlow, api.ErrArg} {
		if seen[e] < 40 {
			t.Errorf("%v comes %d times", e, seen[e])
		}
	}
	if wrong < 1000 || seen[api.OK] < 5000 {
		t.Errorf("%d lines are wrong, %d texts are right", wrong, seen[api.OK])
	}
}

// P21.3, many texts: with more blanks, and lines that are left out, each answers the same, and of its wrong line.
func TestManyLeftOut(t *testing.T) {
	c := chance(22)
	for range 5000 {
		l := c.turned(c.text())
		var more []string
		var moved []int // of each line, where it is then
		for _, s := range l {
			for range c.next(3) {
				more = append(more, c.of("", " ", "#", "# nop", "  #data x n"))
			}
			moved = append(moved, len(more))
			more = append(more, strings.Repeat(" ", c.next(3))+strings.ReplaceAll(s, " ", strings.Repeat(" ", 1+c.next(3)))+strings.Repeat(" ", c.next(3)))
		}
		o, n, e := asm.Parse(lines(l...))
		if n < len(l) {
			n = moved[n]
		} else {
			n = len(more)
		}
		gives(t, lines(more...), o, n, e)
	}
}

// The rules: what is answered shares no memory, and hangs on the text alone.
func TestShares(t *testing.T) {
	l, want := play()
	s := lines(l...)
	first, _, _ := asm.Parse(s)
	second, _, _ := asm.Parse(s)
	for _, f := range first.Funcs {
		clear(f.Kinds[:cap(f.Kinds)])
		clear(f.Lines[:cap(f.Lines)])
		clear(f.Code[:cap(f.Code)])
		clear(f.Relocs[:cap(f.Relocs)])
	}
	for _, d := range first.Datas {
		clear(d.Words[:cap(d.Words)])
		clear(d.Relocs[:cap(d.Relocs)])
	}
	clear(first.Symbols[:cap(first.Symbols)])
	clear(first.Datas[:cap(first.Datas)])
	clear(first.Funcs[:cap(first.Funcs)])
	if told(second) != told(want) {
		t.Errorf("%+v", second)
	}
	gives(t, s, want, len(l), api.OK)
	names := asm.Names(s)
	clear(names[:cap(names)])
	if again := asm.Names(s); len(again) != 8 || again[0] != "main" || again[7] != "none" {
		t.Errorf("Names = %q", again)
	}
}

// P7: each call ends at texts of all sorts.
func TestEnds(t *testing.T) {
	c := chance(23)
	for i := range 20000 {
		b := make([]byte, i%40)
		for at := range b {
			b[at] = byte(c.next(256))
			if c.next(2) == 0 {
				b[at] = " \n#@n0-"[c.next(7)]
			}
		}
		for _, s := range []string{string(b), "data d n\n" + string(b), "proc f f0\n" + string(b), "proc f f0\ncall 0 @" + string(b)} {
			o, n, e := parseOracle(s)
			gives(t, s, o, n, e)
			if got, want := asm.Names(s), namesOracle(s); !slices.Equal(got, want) {
				t.Errorf("Names(%q) = %q; want %q", s, got, want)
			}
		}
	}
	for at := range 256 {
		s := string([]byte{byte(at)})
		for _, text := range []string{s, s + s, "data" + s + "d n", "data d n" + s, "data d n\nword" + s + "7", s + "\n" + s, "#" + s, s + "#"} {
			o, n, e := parseOracle(text)
			gives(t, text, o, n, e)
		}
	}
}

// P7: long texts are gone through in time.
func TestMuch(t *testing.T) {
	const n = 200000
	var b strings.Builder
	b.WriteString("proc f f0\n")
	for i := range n {
		fmt.Fprintf(&b, "call 0 @g%d\n", n-1-i)
	}
	for i := range n {
		fmt.Fprintf(&b, "extern proc g%d f0\n", i)
	}
	gives(t, b.String(), api.Object{}, 1+2*n, api.ErrMany)
	if names := asm.Names(b.String()); len(names) != 1+n || names[0] != "f" || names[n] != fmt.Sprint("g", n-1) {
		t.Errorf("%d names", len(names))
	}
	refuses(t, api.ErrLong, 1+n, append([]string{"data d n"}, slices.Repeat([]string{"word 7"}, n)...)...)
	refuses(t, api.ErrLong, 1+n, append([]string{"proc f f0"}, slices.Repeat([]string{"return 0"}, n)...)...)
	refuses(t, api.ErrForm, 1+n, append([]string{"proc f f0"}, slices.Repeat([]string{"line 7"}, n)...)...)
	refuses(t, api.ErrLong, 3, "proc f f0", "slots"+strings.Repeat(" n", n), "return 0")
	gives(t, strings.Repeat("\n", n), api.Object{}, n, api.OK)
	gives(t, strings.Repeat(" ", n), api.Object{}, 1, api.OK)
	gives(t, strings.Repeat("#", n), api.Object{}, 1, api.OK)
	gives(t, strings.Repeat("@", n), api.Object{}, 0, api.ErrForm)
	gives(t, "proc f f0\ncall 0"+strings.Repeat(" @", n), api.Object{}, 1, api.ErrForm)
	gives(t, "proc f f0\ncall 0 @"+strings.Repeat("@", n), api.Object{}, 1, api.ErrNone)
}
