package bind_test

import (
	"fmt"
	"math"
	"reflect"
	"slices"
	"strings"
	"testing"

	"sheerleg/api"
	"sheerleg/asm"
	"sheerleg/bind"
	"sheerleg/sig"
)

// numbers are those that any call may be given.
func numbers() []int {
	return []int{math.MinInt, math.MinInt + 1, -1 << 32, -65536, -257, -256, -129, -128, -3, -2, -1, 0, 1, 2, 3, 7, 8, 9, 127, 128, 255, 256, 257, 65535, 65536, 1 << 31, 1 << 32, 1<<32 + 1, math.MaxInt - 1, math.MaxInt}
}

// file is the object of a text; its lines are told one by one, or several with a / between.
func file(t *testing.T, lines ...string) api.Object {
	t.Helper()
	s := strings.ReplaceAll(strings.Join(lines, "\n"), " / ", "\n")
	o, at, e := asm.Parse(s)
	if e != api.OK {
		t.Fatalf("%v at line %d of\n%s", e, at, s)
	}
	return o
}

// bound is the program of files, that there must be.
func bound(t *testing.T, l []api.Object, entry string) api.Program {
	t.Helper()
	p, r := bind.Bind(l, entry)
	if r != (api.Reject{}) {
		t.Fatalf("Bind(%v, %q): %v", l, entry, r)
	}
	return p
}

// refuses holds Bind to an error, with its place, and to no program.
func refuses(t *testing.T, l []api.Object, entry string, e api.Errno, file, item int) {
	t.Helper()
	want := api.Reject{Why: e, File: file, Item: item}
	if p, r := bind.Bind(l, entry); r != want || !reflect.DeepEqual(p, api.Program{}) {
		t.Errorf("Bind(%v, %q) = %v, %v; want nothing, %v", l, entry, p, r, want)
	}
}

func checks(t *testing.T, p api.Program, want api.Errno) {
	t.Helper()
	if e := bind.Check(p); e != want {
		t.Errorf("Check(%v) = %v; want %v", p, e, want)
	}
}

// told is what p tells of its functions and data, but for their contents.
func told(p api.Program) []string {
	var l []string
	for _, f := range p.Funs {
		l = append(l, fmt.Sprintf("fun %d %d %s %v", f.File, f.Item, f.Name, f.Refs))
	}
	for _, d := range p.Dats {
		l = append(l, fmt.Sprintf("dat %d %d %s %v", d.File, d.Item, d.Name, d.Refs))
	}
	return append(l, fmt.Sprint("entry ", p.Entry))
}

// tells holds the program of files, with main as the entry, to what it tells.
func tells(t *testing.T, l []api.Object, want ...string) {
	t.Helper()
	if got := told(bound(t, l, "main")); !slices.Equal(got, want) {
		t.Errorf("Bind(%v):\n%s\nwant\n%s", l, strings.Join(got, "\n"), strings.Join(want, "\n"))
	}
}

// Example 1.
func TestExample(t *testing.T) {
	f := api.Func{Code: []api.Instr{{Op: api.OpReturn}}}
	l := []api.Object{{Symbols: []api.Symbol{{Name: "main", Sort: api.SymFunc}}, Funcs: []api.Func{f}}}
	want := api.Program{Funs: []api.Fun{{Name: "main", F: f, Refs: []int{-1}}}}
	if p := bound(t, l, "main"); !reflect.DeepEqual(p, want) {
		t.Errorf("%+v; want %+v", p, want)
	}
}

// play is three files that refer to one another, and to themselves; own is local in each, and another thing.
func play(t *testing.T) []api.Object {
	t.Helper()
	return []api.Object{
		file(t,
			"extern proc later f1 / extern data count n",
			"data table f1r / word nil / word @twice short / word @out / word @twice",
			"proc start f0 local nosplit / pad 7 / slots n n f1r f0",
			"set 0 7 / load 1 0 @count / store 1 0 @own short / pick 2 1 @table / via 0 2 f1r / func 3 @start / call 0 @twice / return 0",
			"data own n local / word 5 / word -6",
			"proc twice f1r / slots n / add 0 0 0 / return 0",
			"extern proc out f1r"),
		file(t,
			"data lone n local / word 1",
			"proc out f1r / slots n n n / nop / call 0 @later / call 1 @own short / return 0",
			"proc own f0r local / slots n / line 3 / load 0 0 @lone / line 4 / return 0",
			"extern data table f1r / extern proc later f1"),
		file(t,
			"proc own f0 local / return 0",
			"extern proc twice f1r",
			"data more f1r local / word @twice",
			"data count n / word 9",
			"proc main f0 / range 1 4 / slots n f0 f1r / defer 0 @own / defer 0 @later / pick 2 0 @more / return 0",
			"proc later f1 / slots n / out 0 / return 0"),
	}
}

// P24.1: functions and data, file by file, with whence they come, and their names; to what they refer, in the own file and in others; and the entry, behind functions of others.
func TestPlay(t *testing.T) {
	tells(t, play(t),
		"fun 0 0 start [-1 4 1 0 -1 0 1 -1]",
		"fun 0 1 twice [-1 -1]",
		"fun 1 0 out [-1 6 3 -1]",
		"fun 1 1 own [2 -1]",
		"fun 2 0 own [-1]",
		"fun 2 1 main [4 6 3 -1]",
		"fun 2 2 later [-1 -1]",
		"dat 0 2 table [-1 1 2 1]",
		"dat 0 3 own [-1 -1]",
		"dat 1 2 lone [-1]",
		"dat 2 3 more [1]",
		"dat 2 4 count [-1]",
		"entry 5")
	l := play(t)
	slices.Reverse(l)
	tells(t, l,
		"fun 0 0 own [-1]",
		"fun 0 1 main [0 2 0 -1]",
		"fun 0 2 later [-1 -1]",
		"fun 1 0 out [-1 2 4 -1]",
		"fun 1 1 own [2 -1]",
		"fun 2 0 start [-1 1 4 3 -1 5 6 -1]",
		"fun 2 1 twice [-1 -1]",
		"dat 0 3 more [6]",
		"dat 0 4 count [-1]",
		"dat 1 2 lone [-1]",
		"dat 2 2 table [-1 6 3 6]",
		"dat 2 3 own [-1 -1]",
		"entry 1")
}

// contents are those of files' functions and data.
func contents(l []api.Object) ([]api.Func, []api.Data) {
	var funcs []api.Func
	var datas []api.Data
	for _, o := range l {
		funcs = append(funcs, o.Funcs...)
		datas = append(datas, o.Datas...)
	}
	return funcs, datas
}

// holds tells whether p has just what the files have.
func holds(p api.Program, l []api.Object) bool {
	var funcs []api.Func
	for _, f := range p.Funs {
		funcs = append(funcs, f.F)
	}
	var datas []api.Data
	for _, d := range p.Dats {
		datas = append(datas, d.D)
	}
	f, d := contents(l)
	return fmt.Sprint(funcs, datas) == fmt.Sprint(f, d)
}

// P24.1: functions and data are as they stand in the files.
func TestContents(t *testing.T) {
	l := play(t)
	p := bound(t, l, "main")
	if !holds(p, l) {
		t.Errorf("%+v", p)
	}
	start, own := p.Funs[0].F, p.Funs[3].F
	if !start.Nosplit || start.Pad != 7 || start.Class != 0 || !slices.Equal(start.Kinds, []int{0, 0, 4, 1}) || start.Relocs[1] != (api.Reloc{At: 2, Sym: 4}) || own.Class != 1 || !slices.Equal(own.Lines, []api.Line{{At: 0, Line: 3}, {At: 1, Line: 4}}) || p.Funs[5].F.From != 1 || p.Funs[5].F.To != 4 {
		t.Errorf("%+v, %+v, %+v", start, own, p.Funs[5].F)
	}
	if d := p.Dats[0].D; d.Kind != 4 || len(d.Words) != 4 || d.Relocs[2] != (api.Reloc{At: 3, Sym: 5, Wide: true}) || !slices.Equal(p.Dats[1].D.Words, []int64{5, -6}) {
		t.Errorf("%+v", p.Dats)
	}
}

// P24.1, Refs: of each operation that needs a reference its number, with and without others ahead of it; of no other one.
func TestOperations(t *testing.T) {
	ahead := file(t, "proc x f0 / return 0 / data y n / data z f2 / proc w f0 / return 0")
	for s, want := range map[string]string{
		"nop": "-1", "set 0 9": "-1", "move 0 0": "-1", "add 0 0 0": "-1", "sub 0 0 0": "-1", "mul 0 0 0": "-1", "div 0 0 0": "-1", "mod 0 0 0": "-1", "less 0 0 0": "-1", "same 0 0 0": "-1", "jump 1": "-1", "zero 0 1": "-1", "in 0": "-1", "out 0": "-1", "via 0 1 f1": "-1", "panic 0": "-1", "recover 0 0": "-1", "return 0": "-1",
		"load 0 0 @n": "3", "store 0 0 @n": "3", "func 1 @g": "4", "pick 1 0 @d": "2", "call 0 @g": "4", "defer 0 @g": "4",
	} {
		o := file(t, "extern data n n / proc f f1 local / slots n / return 0 / proc main f0 / range 0 2 / slots n f1", s, "return 0 / data d f1 local / word @g / extern proc g f1")
		last := file(t, "data n n / word 1 / proc g f1 / slots n / return 0")
		tells(t, []api.Object{ahead, o, last},
			"fun 0 0 x [-1]", "fun 0 1 w [-1]", "fun 1 0 f [-1]", "fun 1 1 main ["+want+" -1]", "fun 2 0 g [-1]",
			"dat 0 2 y []", "dat 0 3 z []", "dat 1 2 d [4]", "dat 2 1 n [-1]", "entry 3")
	}
}

// P24.1: just as many files as there may be; files with nothing in them; files with one thing each.
func TestRight(t *testing.T) {
	main := file(t, "proc main f0 / return 0")
	for files := range 6 {
		l := slices.Insert(make([]api.Object, files), files/2, main)
		tells(t, l, fmt.Sprint("fun ", files/2, " 0 main [-1]"), "entry 0")
	}
	var l []api.Object
	var want []string
	for i := range 5 {
		l = append(l, file(t, fmt.Sprint("data d", i, " n / proc f", i, " f0 local / return 0")))
		want = append(want, fmt.Sprint("fun ", i, " 0 f", i, " [-1]"))
	}
	want = append(want, "fun 5 0 main [-1]")
	for i := range 5 {
		want = append(want, fmt.Sprint("dat ", i, " 1 d", i, " []"))
	}
	tells(t, append(l, main), append(want, "entry 5")...)
}

// P24.1, ErrMany: no files, or more than there may be, ahead of what is wrong of files, and of the entry.
func TestFiles(t *testing.T) {
	refuses(t, nil, "main", api.ErrMany, -1, -1)
	refuses(t, []api.Object{}, "", api.ErrMany, -1, -1)
	wrong := api.Object{Symbols: []api.Symbol{{Name: "Main"}}}
	for _, files := range []int{7, 8, 256, 257, 262, 65537} {
		refuses(t, append(make([]api.Object, files-1), file(t, "proc main f0 / return 0")), "main", api.ErrMany, -1, -1)
		refuses(t, slices.Repeat([]api.Object{wrong}, files), "x", api.ErrMany, -1, -1)
	}
	refuses(t, slices.Repeat([]api.Object{wrong}, 6), "main", api.ErrName, 0, 0)
}

// P24.1: what object.Check tells of a file, with its place, ahead of what is wrong of names, and of the entry; of several files the first one's.
func TestFileWrong(t *testing.T) {
	main := file(t, "proc main f0 / return 0")
	alike := file(t, "extern proc nobody f0 / proc main f0 / return 0")
	for _, c := range []struct {
		turn func(o *api.Object)
		e    api.Errno
		item int
	}{
		{func(o *api.Object) { o.Symbols = make([]api.Symbol, 33) }, api.ErrMany, -1},
		{func(o *api.Object) { o.Funcs = make([]api.Func, 13) }, api.ErrMany, -1},
		{func(o *api.Object) { o.Datas = make([]api.Data, 9) }, api.ErrMany, -1},
		{func(o *api.Object) { o.Symbols[0].Name = "Main" }, api.ErrName, 0},
		{func(o *api.Object) { o.Symbols[1].Name = strings.Repeat("a", 25) }, api.ErrLong, 1},
		{func(o *api.Object) { o.Symbols[1].Sort = 3 }, api.ErrKind, 1},
		{func(o *api.Object) { o.Symbols[2].Kind = 9 }, api.ErrKind, 2},
		{func(o *api.Object) { o.Symbols[2].Name = "f" }, api.ErrTwice, 2},
		{func(o *api.Object) { o.Symbols[2].Def = 1 }, api.ErrRange, 2},
		{func(o *api.Object) { o.Symbols[1].Def = -2 }, api.ErrRange, 1},
		{func(o *api.Object) { o.Symbols[3].Local = true }, api.ErrNone, 3},
		{func(o *api.Object) { o.Datas = append(o.Datas, api.Data{}) }, api.ErrNone, 3},
		{func(o *api.Object) { o.Funcs[1].Class = 2 }, api.ErrClass, 1},
		{func(o *api.Object) { o.Funcs[0].Code = nil }, api.ErrForm, 0},
		{func(o *api.Object) { o.Funcs[1].Relocs = nil }, api.ErrReloc, 1},
		{func(o *api.Object) { o.Funcs[1].Pad = 4097 }, api.ErrRange, 1},
		{func(o *api.Object) { o.Datas[0].Words[0] = 1 }, api.ErrArg, 2},
	} {
		o := file(t, "proc f f0 / return 0 / proc g f0 local / call 0 @far / return 0 / data d f0 / word @g / extern proc far f0")
		c.turn(&o)
		refuses(t, []api.Object{o}, "f", c.e, 0, c.item)
		refuses(t, []api.Object{main, o}, "main", c.e, 1, c.item)
		refuses(t, []api.Object{main, o, {Symbols: []api.Symbol{{}}}}, "main", c.e, 1, c.item)
		refuses(t, []api.Object{main, main, o}, "x", c.e, 2, c.item)
		refuses(t, []api.Object{alike, {}, o, main}, "", c.e, 2, c.item)
	}
}

// P24.1: what scope.Check tells, with its place, ahead of what is wrong of the entry.
func TestNames(t *testing.T) {
	main := file(t, "proc main f0 / return 0")
	for _, entry := range []string{"main", "x", ""} {
		refuses(t, []api.Object{main, main}, entry, api.ErrTwice, 1, 0)
		refuses(t, []api.Object{file(t, "extern proc far f0 / data d n / proc main f0 / return 0"), {}, file(t, "proc p f0 / return 0 / data main n")}, entry, api.ErrTwice, 2, 1)
		refuses(t, []api.Object{main, file(t, "proc p f0 / return 0 / extern proc far f0 / extern data d n")}, entry, api.ErrNone, 1, 1)
		refuses(t, []api.Object{file(t, "extern proc p f0"), file(t, "proc p f0 local / return 0"), main}, entry, api.ErrNone, 0, 0)
		refuses(t, []api.Object{main, file(t, "extern proc main f1")}, entry, api.ErrClass, 1, 0)
		refuses(t, []api.Object{main, file(t, "extern data d f0 / extern proc q f0"), file(t, "data d n")}, entry, api.ErrClass, 1, 0)
		refuses(t, []api.Object{main, file(t, "data x n / extern data main n")}, entry, api.ErrClass, 1, 1)
		refuses(t, []api.Object{main, file(t, "extern data d f0"), file(t, "proc d f0 / return 0")}, entry, api.ErrClass, 1, 0)
	}
}

// P24.1, ErrEntry: nobody defines it, it is local, or data, or its class has parameters.
func TestEntry(t *testing.T) {
	l := play(t)
	for _, entry := range []string{"", "nobody", "start", "own", "count", "table", "lone", "more", "twice", "out", "later", "Main", "main ", " main", "mai", "mainx", "main\x00", "\xff", strings.Repeat("main", 100)} {
		refuses(t, l, entry, api.ErrEntry, -1, -1)
	}
	refuses(t, make([]api.Object, 6), "", api.ErrEntry, -1, -1)
	refuses(t, []api.Object{{}, file(t, "proc main f0 local / return 0"), file(t, "proc main f0r local / slots n / return 0")}, "main", api.ErrEntry, -1, -1)
	refuses(t, []api.Object{file(t, "data main n")}, "main", api.ErrEntry, -1, -1)
	refuses(t, []api.Object{file(t, "data main f0")}, "main", api.ErrEntry, -1, -1)
	for class := range 8 {
		l := []api.Object{file(t, "data d n / proc a f3 / slots n n n / return 0"), file(t, "extern proc main "+sig.Text(1+class)), file(t, "proc p f0 local / return 0 / proc main "+sig.Text(1+class)+" / slots n n n / return 0")}
		if class > 1 {
			refuses(t, l, "main", api.ErrEntry, -1, -1)
		} else {
			tells(t, l, "fun 0 0 a [-1]", "fun 2 0 p [-1]", "fun 2 1 main [-1]", "dat 0 1 d []", "entry 2")
		}
	}
	if p := bound(t, []api.Object{file(t, "proc p f0 / return 0 / proc q f0 / return 0"), file(t, "proc p f0 local / return 0 / proc r f0 / return 0")}, "r"); p.Entry != 3 {
		t.Errorf("Entry %d", p.Entry)
	}
	if p := bound(t, []api.Object{file(t, "proc p f0 local / return 0"), file(t, "proc p f0 / return 0")}, "p"); p.Entry != 1 {
		t.Errorf("Entry %d", p.Entry)
	}
}

func finds(t *testing.T, p api.Program, file, item, want int) {
	t.Helper()
	if n := bind.Fun(p, file, item); n != want {
		t.Errorf("Fun(%v, %d, %d) = %d; want %d", told(p), file, item, n, want)
	}
}

// P24.2, Fun: of each function its number; of data, and of what is not there, none.
func TestFun(t *testing.T) {
	p := bound(t, play(t), "main")
	for n, f := range p.Funs {
		finds(t, p, f.File, f.Item, n)
	}
	for _, d := range p.Dats {
		finds(t, p, d.File, d.Item, -1)
	}
	for _, at := range numbers() {
		finds(t, api.Program{}, at, at, -1)
		finds(t, api.Program{Dats: []api.Dat{{File: at, Item: at}}}, at, at, -1)
		finds(t, api.Program{Funs: []api.Fun{{File: 5, Item: at}, {File: at, Item: 5}, {File: at, Item: at}}, Dats: []api.Dat{{File: at, Item: at}}}, at, at, 2)
		finds(t, api.Program{Funs: []api.Fun{{File: at, Item: 6}, {File: 6, Item: at}}}, 6, 5, -1)
		if at < 0 || at > 2 {
			finds(t, p, at, 0, -1)
			finds(t, p, 2, at, map[bool]int{true: 6, false: -1}[at == 2])
		}
	}
	// In a program of nobody's several may come from there.
	finds(t, api.Program{Funs: []api.Fun{{File: 1}, {Item: 1}, {File: 1, Item: 1}, {Item: 1}}}, 0, 1, 1)
}

// program has three functions and two data, and may be.
func program() api.Program {
	return api.Program{
		Funs: []api.Fun{
			{F: api.Func{Code: []api.Instr{{Op: api.OpCall}, {Op: api.OpLoad}, {Op: api.OpReturn}}}, Refs: []int{2, 1, -1}},
			{F: api.Func{Code: []api.Instr{{Op: api.OpNop}}}, Refs: []int{-1}},
			{F: api.Func{Code: []api.Instr{{Op: api.OpPick}, {Op: api.OpDefer}}}, Refs: []int{0, 0}},
		},
		Dats: []api.Dat{{D: api.Data{Words: []int64{1, 2}}, Refs: []int{-1, -1}}, {D: api.Data{Kind: 1, Words: []int64{0, 0}}, Refs: []int{2, 0}}},
	}
}

// checksTurned holds Check of a turned program() to an error.
func checksTurned(t *testing.T, want api.Errno, turn func(p *api.Program)) {
	t.Helper()
	p := program()
	turn(&p)
	checks(t, p, want)
}

// P24.2, ErrArg: Entry is no function's number, ahead of all else.
func TestCheckEntry(t *testing.T) {
	for _, n := range append(numbers(), 4, 5) {
		want := api.ErrArg
		if 0 <= n && n < 3 {
			want = api.OK
		}
		checksTurned(t, want, func(p *api.Program) { p.Entry = n })
		if want != api.OK {
			checksTurned(t, want, func(p *api.Program) { p.Entry, p.Funs[0].Refs[0] = n, 3 })
		}
		checks(t, api.Program{Entry: n}, api.ErrArg)
		checks(t, api.Program{Entry: n, Dats: program().Dats}, api.ErrArg)
	}
	checks(t, api.Program{Funs: []api.Fun{{}}}, api.OK)
	checks(t, api.Program{Funs: []api.Fun{{}}, Dats: []api.Dat{{}}}, api.OK)
}

// P24.2, ErrArg: there are more, or fewer, numbers than instructions, or words.
func TestCheckMany(t *testing.T) {
	for i := range 3 {
		checksTurned(t, api.ErrArg, func(p *api.Program) { p.Funs[i].Refs = append(p.Funs[i].Refs, -1) })
		checksTurned(t, api.ErrArg, func(p *api.Program) { p.Funs[i].Refs = p.Funs[i].Refs[1:] })
		checksTurned(t, api.ErrArg, func(p *api.Program) { p.Funs[i].Refs = nil })
		checksTurned(t, api.ErrArg, func(p *api.Program) { p.Funs[i].F.Code = nil })
		checksTurned(t, api.ErrArg, func(p *api.Program) { p.Funs[i].Refs = slices.Repeat([]int{-1}, 256+len(p.Funs[i].Refs)) })
		checksTurned(t, api.OK, func(p *api.Program) { p.Funs[i].Refs, p.Funs[i].F.Code = nil, nil })
	}
	for i := range 2 {
		checksTurned(t, api.ErrArg, func(p *api.Program) { p.Dats[i].Refs = append(p.Dats[i].Refs, -1) })
		checksTurned(t, api.ErrArg, func(p *api.Program) { p.Dats[i].Refs = p.Dats[i].Refs[1:] })
		checksTurned(t, api.ErrArg, func(p *api.Program) { p.Dats[i].Refs = nil })
		checksTurned(t, api.ErrArg, func(p *api.Program) { p.Dats[i].D.Words = nil })
		checksTurned(t, api.OK, func(p *api.Program) { p.Dats[i].Refs, p.Dats[i].D.Words = nil, nil })
	}
}

// P24.2: of each operation, also of such as there are not, which numbers may be: none below -1, and none above the last function's, or the last data's, if these are needed.
func TestCheckNumbers(t *testing.T) {
	for _, operation := range append(numbers(), 4, 5, 6, 10, 11, 12, 13, api.OpLoad, api.OpStore, api.OpFunc, api.OpPick, api.OpCall, api.OpVia, api.OpDefer, api.OpPanic, api.OpRecover, api.OpReturn, api.OpCheck, api.OpEnter, api.OpBottom, api.OpDriver, 29, 256+api.OpCall) {
		last := math.MaxInt
		switch operation {
		case api.OpCall, api.OpFunc, api.OpDefer:
			last = 2
		case api.OpLoad, api.OpStore, api.OpPick:
			last = 1
		}
		for _, n := range append(numbers(), 4) {
			want := api.OK
			if n < -1 {
				want = api.ErrArg
			} else if n > last {
				want = api.ErrRange
			}
			for i := range 3 {
				checksTurned(t, want, func(p *api.Program) {
					at := len(p.Funs[i].Refs) - 1
					p.Funs[i].F.Code[at].Op, p.Funs[i].Refs[at] = operation, n
				})
			}
		}
	}
	for _, n := range append(numbers(), 4) {
		want := api.OK
		if n < -1 {
			want = api.ErrArg
		} else if n > 2 {
			want = api.ErrRange
		}
		for i := range 2 {
			for at := range 2 {
				checksTurned(t, want, func(p *api.Program) { p.Dats[i].Refs[at] = n })
			}
		}
	}
	checks(t, api.Program{Funs: []api.Fun{{F: api.Func{Code: []api.Instr{{Op: api.OpLoad}}}, Refs: []int{0}}}}, api.ErrRange)
	checks(t, api.Program{Funs: []api.Fun{{F: api.Func{Code: []api.Instr{{Op: api.OpLoad}}}, Refs: []int{-1}}}}, api.OK)
}

// P24.2: function by function, then data by data; of one ErrArg comes ahead of ErrRange.
func TestCheckFirst(t *testing.T) {
	for _, turn := range []func(p *api.Program){
		func(p *api.Program) { p.Funs[0].Refs = []int{3, 2, -2} },
		func(p *api.Program) { p.Funs[0].Refs = []int{-2, 2, -1} },
		func(p *api.Program) { p.Funs[0].Refs = []int{3, 2} },
		func(p *api.Program) { p.Funs[0].Refs = []int{3, 2, -1, -1} },
		func(p *api.Program) { p.Funs[0].Refs[0], p.Funs[1].Refs[0], p.Funs[2].Refs[0] = -2, 9, 9 },
		func(p *api.Program) { p.Funs[1].Refs[0], p.Funs[2].Refs[0] = -2, 9 },
		func(p *api.Program) { p.Funs[2].Refs[0], p.Dats[0].Refs[0] = -2, 3 },
		func(p *api.Program) { p.Dats[0].Refs = []int{3, -2} },
		func(p *api.Program) { p.Dats[0].Refs = []int{3, 3, 3} },
		func(p *api.Program) { p.Dats[0].Refs[1], p.Dats[1].Refs[0] = -2, 3 },
	} {
		checksTurned(t, api.ErrArg, turn)
	}
	for _, turn := range []func(p *api.Program){
		func(p *api.Program) { p.Funs[0].Refs[0], p.Funs[1].Refs[0] = 3, -2 },
		func(p *api.Program) { p.Funs[0].Refs[1], p.Funs[1].Refs = 2, nil },
		func(p *api.Program) { p.Funs[2].Refs[1], p.Dats[0].Refs = 3, nil },
		func(p *api.Program) { p.Funs[2].Refs[0], p.Dats[1].Refs[0] = 2, -2 },
		func(p *api.Program) { p.Dats[0].Refs[1], p.Dats[1].Refs[0] = 3, -2 },
		func(p *api.Program) { p.Dats[0].Refs[1], p.Dats[1].Refs = 3, nil },
	} {
		checksTurned(t, api.ErrRange, turn)
	}
}
