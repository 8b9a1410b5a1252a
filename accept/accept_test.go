package accept_test

import (
	"fmt"
	"math"
	"reflect"
	"slices"
	"strings"
	"testing"

	"sheerleg/accept"
	"sheerleg/api"
	"sheerleg/asm"
	"sheerleg/bind"
	"sheerleg/chain"
	"sheerleg/file"
	"sheerleg/sum"
)

// numbers are those that any call may be given.
func numbers() []int {
	return []int{math.MinInt, math.MinInt + 1, -1 << 32, -65536, -257, -3, -2, -1, 0, 1, 2, 3, 7, 8, 9, 55, 56, 255, 256, 257, 65535, 65536, 1 << 31, 1 << 32, 1<<32 + 1, math.MaxInt - 1, math.MaxInt}
}

// object is that of a text; its lines are told one by one, or several with a / between.
func object(t *testing.T, lines ...string) api.Object {
	t.Helper()
	s := strings.ReplaceAll(strings.Join(lines, "\n"), " / ", "\n")
	o, at, e := asm.Parse(s)
	if e != api.OK {
		t.Fatalf("%v at line %d of\n%s", e, at, s)
	}
	return o
}

// written is the bytes of a text's object.
func written(t *testing.T, lines ...string) []byte {
	t.Helper()
	return file.Put(object(t, lines...))
}

// proc is the lines of a declaration, and of so many instructions, which do nothing, and return.
func proc(declaration string, instructions int) string {
	return declaration + " / " + strings.Repeat("nop / ", instructions-1) + "return 0"
}

// bound is the program of files' texts.
func bound(t *testing.T, texts ...string) api.Program {
	t.Helper()
	var l []api.Object
	for _, s := range texts {
		l = append(l, object(t, s))
	}
	p, r := bind.Bind(l, "main")
	if r.Why != api.OK {
		t.Fatalf("%v of %q", r, texts)
	}
	return p
}

// nowhere is why files are rejected at no place.
func nowhere(why api.Errno) api.Reject {
	return api.Reject{Why: why, File: -1, Item: -1}
}

// told is the first bytes of some of the files.
func told(files [][]byte) string {
	var l []string
	for _, b := range files[:min(len(files), 8)] {
		l = append(l, fmt.Sprintf("%d: %q", len(b), b[:min(len(b), 60)]))
	}
	return fmt.Sprint(len(files), " files: ", strings.Join(l, ", "))
}

// sketch tells of a program's functions and data to what they refer, but not what they are.
func sketch(p api.Program) string {
	var l []string
	for _, f := range p.Funs[:min(len(p.Funs), 20)] {
		l = append(l, fmt.Sprintf("fun %d %d: %d instructions, %v, %v", f.File, f.Item, len(f.F.Code), f.F.Relocs, slices.DeleteFunc(slices.Clone(f.Refs), func(n int) bool { return n == -1 })))
	}
	for _, d := range p.Dats[:min(len(p.Dats), 20)] {
		l = append(l, fmt.Sprintf("dat %d %d: %d words, %v, %v", d.File, d.Item, len(d.D.Words), d.D.Relocs, slices.DeleteFunc(slices.Clone(d.Refs), func(n int) bool { return n == -1 })))
	}
	return fmt.Sprint("entry ", p.Entry, ", ", strings.Join(l, "; "))
}

// takes holds Read to the program of the files' objects.
func takes(t *testing.T, entry string, files ...[]byte) {
	t.Helper()
	var l []api.Object
	for _, b := range files {
		o, _, _ := file.Read(b)
		l = append(l, o)
	}
	want, _ := bind.Bind(l, entry)
	if p, r := accept.Read(files, entry); r != (api.Reject{}) || len(p.Funs) == 0 || fmt.Sprint(p) != fmt.Sprint(want) {
		t.Errorf("Read(%s, %q) = %s, %+v; want %s", told(files), entry, sketch(p), r, sketch(want))
	}
}

// refuses holds Read to a reject, and to no program.
func refuses(t *testing.T, want api.Reject, entry string, files ...[]byte) {
	t.Helper()
	if p, r := accept.Read(files, entry); r != want || !reflect.DeepEqual(p, api.Program{}) {
		t.Errorf("Read(%s, %q) = %s, %+v; want nothing, %+v", told(files), entry, sketch(p), r, want)
	}
}

// checks holds Check to what it answers.
func checks(t *testing.T, p api.Program, want api.Reject) {
	t.Helper()
	if r := accept.Check(p); r != want {
		t.Errorf("Check(%s) = %+v; want %+v", sketch(p), r, want)
	}
}

// Texts of files: one that may be linked alone, and such as may be bound to it, but are wrong each in one way, told of the second one of two files.
const (
	good     = "proc main f0r / slots n / set 0 7 / return 0"
	lone     = "proc x f0 local / return 0"
	twice    = "data d n / proc p f0 local / return 0 / proc main f0 / return 0"
	lacking  = "proc p f0 local / return 0 / extern proc nobody f0"
	another  = "extern proc main f1r"
	circling = "proc p f0 / return 0 / proc main f0 / call 0 @q / return 0 / proc q f0 nosplit / call 0 @q / return 0"
	deepest  = "proc main f0 / call 0 @q / return 0 / proc q f0 nosplit / pad 56 / return 0"
	starting = "proc p f0 / return 0 / proc main f0 nosplit / pad 56 / return 0"
)

// far is the text of a file of which the last function, main, refers to one that starts at 256 by 8 bits.
func far() string {
	return strings.Join([]string{proc("proc far.a f0", 64), proc("proc far.b f0", 64), proc("proc far.c f0", 64), proc("proc far.d f0", 54), "proc far.e f0 / return 0", "proc main f0 / call 0 @far.e short / return 0"}, " / ")
}

// Examples 1, and of the whole 1, 4, 5, 6 and 10.
func TestExamples(t *testing.T) {
	refuses(t, nowhere(api.ErrMany), "main")
	takes(t, "main", written(t, good))
	refuses(t, api.Reject{Why: api.ErrCycle, Item: 1}, "main", written(t, "proc main f0 / call 0 @f / return 0 / proc f f0 nosplit / call 0 @g / return 0 / proc g f0 nosplit / call 0 @f / return 0"))
	refuses(t, api.Reject{Why: api.ErrDeep, Item: 1}, "main", written(t, "proc f f0 nosplit / pad 54 / slots n n / return 0 / proc main f0 / call 0 @f / return 0"))
	takes(t, "main", written(t, "proc f f0 nosplit / pad 53 / slots n n / return 0 / proc main f0 / call 0 @f / return 0"))
	refuses(t, api.Reject{Why: api.ErrTwice, File: 1}, "main", written(t, good), written(t, good))
	broken := written(t, good)
	broken[9] ^= 1
	refuses(t, api.Reject{Why: api.ErrSum, File: 1, Item: -1}, "main", written(t, good), broken)
}

// P30.1, Check: chain.Check's, each of them, with its place, Nosplit functions being free, and no others.
func TestCheckChains(t *testing.T) {
	checks(t, bound(t, good), api.Reject{})
	for _, x := range []struct {
		text string
		want api.Reject
	}{
		{circling, api.Reject{Why: api.ErrCycle, File: 1, Item: 2}},
		{deepest, api.Reject{Why: api.ErrDeep, File: 1, Item: 0}},
		{starting, nowhere(api.ErrDeep)},
		// Functions with a check may be on a circle, and have great frames.
		{"proc main f0 / call 0 @q / return 0 / proc q f0 / call 0 @q / return 0", api.Reject{}},
		{"proc main f0 nosplit / call 0 @q / return 0 / proc q f0 / call 0 @main / return 0", api.Reject{}},
		{"proc main f0 / pad 4096 / call 0 @q / return 0 / proc q f0 / pad 56 / return 0", api.Reject{}},
		// Functions that are not called.
		{"proc main f0 / return 0 / proc q f0 nosplit / pad 4096 / call 0 @q / return 0", api.Reject{}},
		// Just as deep as may be.
		{"proc main f0 / call 0 @q / return 0 / proc q f0 nosplit / pad 55 / return 0", api.Reject{}},
		{"proc main f0 nosplit / pad 55 / return 0", api.Reject{}},
		{"proc main f0 nosplit / pad 53 / call 0 @q / return 0 / proc q f0 / pad 99 / return 0", api.Reject{}},
		{"proc main f0 nosplit / pad 54 / call 0 @q / return 0 / proc q f0 / pad 99 / return 0", nowhere(api.ErrDeep)},
	} {
		p := bound(t, lone, x.text)
		checks(t, p, x.want)
		if r := chain.Check(p, chain.Nosplit(p)); r != x.want {
			t.Errorf("of layer 27, of %s: %+v; want %+v", x.text, r, x.want)
		}
	}
}

// P30.1, Check: an entry that is none of a function, ahead of all else.
func TestCheckEntry(t *testing.T) {
	for _, n := range numbers() {
		p := bound(t, far())
		p.Entry = n
		want := nowhere(api.ErrArg)
		if 0 <= n && n < 6 {
			want = api.Reject{Why: api.ErrFar, Item: 5}
		}
		checks(t, p, want)
		checks(t, api.Program{Entry: n}, nowhere(api.ErrArg))
		checks(t, api.Program{Entry: n, Funs: []api.Fun{}, Dats: make([]api.Dat, 3)}, nowhere(api.ErrArg))
	}
}

// P30.1, Check: a chain that is wrong comes ahead of a far reference, whichever stands first.
func TestCheckFirst(t *testing.T) {
	p := bound(t, far())
	checks(t, p, api.Reject{Why: api.ErrFar, Item: 5})
	p.Funs[4].F.Nosplit, p.Funs[4].F.Pad = true, 56
	checks(t, p, api.Reject{Why: api.ErrDeep, Item: 5})
	p.Funs[4].F.Pad = 55
	// Without e's check, e starts where it did.
	checks(t, p, api.Reject{Why: api.ErrFar, Item: 5})
	p.Funs[5].F.Nosplit = true
	checks(t, p, nowhere(api.ErrDeep))
	p.Funs[5].Refs[0], p.Funs[0].F.Relocs, p.Funs[0].Refs[0], p.Funs[0].F.Code[0].Op = 5, []api.Reloc{{}}, 4, api.OpCall
	checks(t, p, api.Reject{Why: api.ErrCycle, Item: 5})
	p.Funs[5].F.Nosplit = false
	checks(t, p, api.Reject{Why: api.ErrFar, Item: 0})
}

// P30.2: just as many files as there may be; who is the entry, and where it stands.
func TestRead(t *testing.T) {
	empty := file.Put(api.Object{})
	for files := range 6 {
		for at := range files + 1 {
			takes(t, "main", slices.Insert(slices.Repeat([][]byte{empty}, files), at, written(t, good))...)
		}
	}
	one := written(t, "extern proc two f1r / extern data count n / proc start f0 / slots n / load 0 0 @count / call 0 @two / return 0")
	two := written(t, "data count n / word 1 / word -2 / proc two f1r nosplit / pad 9 / slots n f1r / pick 1 0 @more / return 0 / data more f1r local / word @two short / word nil")
	takes(t, "start", one, two)
	takes(t, "start", two, one)
	p, r := accept.Read([][]byte{two, one}, "start")
	if r != (api.Reject{}) || p.Entry != 1 || len(p.Funs) != 2 || !slices.Equal(p.Funs[1].Refs, []int{0, 0, -1}) || p.Funs[0].Name != "two" || p.Funs[1].File != 1 || !p.Funs[0].F.Nosplit || len(p.Dats) != 2 || !slices.Equal(p.Dats[1].Refs, []int{0, -1}) || !slices.Equal(p.Dats[0].D.Words, []int64{1, -2}) {
		t.Errorf("%+v, %+v", p, r)
	}
}

// P30.2, ErrMany: no files, or more than there may be, ahead of what is wrong of files, and of the entry.
func TestReadMany(t *testing.T) {
	empty := file.Put(api.Object{})
	for _, entry := range []string{"main", "x", ""} {
		refuses(t, nowhere(api.ErrMany), entry, [][]byte{}...)
		refuses(t, nowhere(api.ErrMany), entry, make([][]byte, 7)...)
		for _, files := range []int{7, 8, 256, 257, 262, 65537} {
			refuses(t, nowhere(api.ErrMany), entry, append(slices.Repeat([][]byte{empty}, files-1), written(t, good))...)
			refuses(t, nowhere(api.ErrMany), entry, slices.Repeat([][]byte{{1, 2, 3}}, files)...)
		}
	}
	refuses(t, api.Reject{Why: api.ErrShort, Item: -1}, "main", make([][]byte, 6)...)
}

// spoilt is the bytes of the object of a text, of which turn made another one.
func spoilt(t *testing.T, text string, turn func(o *api.Object)) []byte {
	t.Helper()
	o := object(t, text)
	turn(&o)
	return file.Put(o)
}

// resealed is b with the bytes ahead of its sum turned, and their sum.
func resealed(b []byte, turn func(b []byte) []byte) []byte {
	return sum.Seal(turn(slices.Clone(b[:len(b)-4])))
}

// wrong is a file that file.Read refuses, with its error, and its number.
type wrong struct {
	b    []byte
	e    api.Errno
	item int
}

// wrongs are files that are broken in each way, and such as are well formed, but not right.
func wrongs(t *testing.T) []wrong {
	t.Helper()
	text := "proc f f0 / return 0 / proc g f0 local / call 0 @far / return 0 / data d f0 / word @g / extern proc far f0"
	b := written(t, text)
	flipped := slices.Clone(b)
	flipped[len(b)-1] ^= 128
	return []wrong{
		{nil, api.ErrShort, -1},
		{[]byte{}, api.ErrShort, -1},
		{[]byte{0, 0, 1}, api.ErrShort, -1},
		{flipped, api.ErrSum, -1},
		{b[:len(b)-1], api.ErrSum, -1},
		{append(slices.Clone(b), 0), api.ErrSum, -1},
		{resealed(b, func(b []byte) []byte { b[3]++; return b }), api.ErrForm, -1},
		{resealed(b, func(b []byte) []byte { return b[:3] }), api.ErrShort, -1},
		{resealed(b, func(b []byte) []byte { return b[:len(b)-1] }), api.ErrShort, -1},
		{resealed(b, func(b []byte) []byte { return append(b, 0) }), api.ErrLong, -1},
		{spoilt(t, text, func(o *api.Object) { o.Symbols = make([]api.Symbol, 33) }), api.ErrMany, -1},
		{spoilt(t, text, func(o *api.Object) { o.Symbols[0].Name = "F" }), api.ErrName, 0},
		{spoilt(t, text, func(o *api.Object) { o.Symbols[1].Name = strings.Repeat("a", 25) }), api.ErrLong, 1},
		{spoilt(t, text, func(o *api.Object) { o.Symbols[2].Name = "f" }), api.ErrTwice, 2},
		{spoilt(t, text, func(o *api.Object) { o.Symbols[3].Local = true }), api.ErrNone, 3},
		{spoilt(t, text, func(o *api.Object) { o.Funcs[0].Class = 2 }), api.ErrClass, 0},
		{spoilt(t, text, func(o *api.Object) { o.Funcs[1].Relocs = nil }), api.ErrReloc, 1},
		{spoilt(t, text, func(o *api.Object) { o.Funcs[1].Pad = 4097 }), api.ErrRange, 1},
		{spoilt(t, text, func(o *api.Object) { o.Datas[0].Words[0] = 1 }), api.ErrArg, 2},
	}
}

// P30.2: what file.Read tells of a file, and which one, with its number; of several the first one's, ahead of what is wrong of names, and of the entry.
func TestReadBroken(t *testing.T) {
	fine, empty, shortest := written(t, good), file.Put(api.Object{}), []byte{1}
	for _, x := range wrongs(t) {
		if _, e, item := file.Read(x.b); e != x.e || item != x.item {
			t.Fatalf("%v: %v, %d; want %v, %d", x.b, e, item, x.e, x.item)
		}
		at := func(file int) api.Reject { return api.Reject{Why: x.e, File: file, Item: x.item} }
		refuses(t, at(0), "main", x.b)
		refuses(t, at(0), "main", x.b, fine)
		refuses(t, at(1), "main", fine, x.b)
		refuses(t, at(1), "main", fine, x.b, shortest)
		refuses(t, at(2), "x", fine, fine, x.b)
		refuses(t, at(2), "main", written(t, lacking), written(t, another), x.b, fine)
		refuses(t, at(1), "main", written(t, circling), x.b)
		refuses(t, at(1), "main", written(t, deepest), x.b)
		refuses(t, at(1), "main", written(t, far()), x.b)
		refuses(t, at(5), "", empty, empty, empty, fine, empty, x.b)
	}
}

// P30.2: what bind.Bind tells, ahead of what is wrong of the entry, of chains, and of references.
func TestReadNames(t *testing.T) {
	fine := written(t, good)
	for _, entry := range []string{"main", "x", ""} {
		for _, ahead := range []string{good, circling, deepest, starting, far()} {
			file := written(t, ahead)
			refuses(t, api.Reject{Why: api.ErrTwice, File: 1, Item: 2}, entry, file, written(t, twice))
			refuses(t, api.Reject{Why: api.ErrNone, File: 1, Item: 1}, entry, file, written(t, lacking))
			refuses(t, api.Reject{Why: api.ErrClass, File: 1, Item: 0}, entry, file, written(t, another))
			refuses(t, api.Reject{Why: api.ErrNone, File: 0, Item: 1}, entry, written(t, lacking), file)
			refuses(t, api.Reject{Why: api.ErrTwice, File: 2, Item: 2}, entry, file, written(t, lacking), written(t, twice))
		}
	}
	for _, entry := range []string{"x", "", "p", "d", "Main", "main ", "mai", "\xff", strings.Repeat("main", 100)} {
		for _, text := range []string{circling, deepest, starting, far()} {
			// What is wrong of main is told only of files in which the entry is found.
			refuses(t, nowhere(api.ErrEntry), entry, written(t, strings.ReplaceAll(text, "proc p f0", "proc q.p f0")), written(t, "data d n / proc p f0 local / return 0"))
		}
	}
	refuses(t, nowhere(api.ErrEntry), "main", file.Put(api.Object{}))
	refuses(t, nowhere(api.ErrEntry), "f", fine, written(t, "proc f f2 / slots n n / return 0"))
	refuses(t, nowhere(api.ErrEntry), "", fine)
}

// P30.2: what Check tells, a chain ahead of a far reference, with file and item.
func TestReadCheck(t *testing.T) {
	plain := written(t, lone)
	for text, want := range map[string]api.Reject{
		circling: {Why: api.ErrCycle, File: 1, Item: 2},
		deepest:  {Why: api.ErrDeep, File: 1, Item: 0},
		starting: nowhere(api.ErrDeep),
		far():    {Why: api.ErrFar, File: 1, Item: 5},
	} {
		refuses(t, want, "main", plain, written(t, text))
		refuses(t, want, "main", plain, written(t, text), plain)
	}
	both := far() + " / proc f f0 / call 0 @g / return 0 / proc g f0 nosplit / pad 56 / return 0"
	b := written(t, strings.Replace(both, "proc main f0", "proc main f0 / call 0 @f", 1))
	refuses(t, api.Reject{Why: api.ErrDeep, File: 0, Item: 6}, "main", b)
	refuses(t, api.Reject{Why: api.ErrDeep, File: 0, Item: 6}, "f", b)
	refuses(t, api.Reject{Why: api.ErrFar, File: 0, Item: 5}, "far.a", b)
}

// P30.2: a reference that just fits, and one more, of functions and of data, as files may have them.
func TestReadFar(t *testing.T) {
	for last, want := range map[int]api.Reject{53: {}, 54: {Why: api.ErrFar, Item: 5}} {
		b := written(t, strings.Replace(far(), proc("proc far.d f0", 54), proc("proc far.d f0", last), 1))
		if want.Why == api.OK {
			takes(t, "main", b)
		} else {
			refuses(t, want, "main", b)
		}
		takes(t, "main", written(t, strings.Replace(far(), "@far.e short", "@far.e", 1)))
	}
	var datas []string
	for i := range 7 {
		datas = append(datas, fmt.Sprint("data d", i, " n local"), strings.Repeat("word 5 / ", 31)+"word 6")
	}
	for words, want := range map[int]api.Reject{23: {}, 24: {Why: api.ErrFar, File: 1, Item: 1}} {
		first := written(t, append(datas, "data e n local", strings.Repeat("word 5 / ", words-1)+"word 6")...)
		second := written(t, "proc f f0 / return 0 / proc main f0 / slots n / load 0 0 @d short / return 0 / data d n")
		wide := written(t, "proc f f0 / return 0 / proc main f0 / slots n / load 0 0 @d / return 0 / data d n")
		if want.Why == api.OK {
			takes(t, "main", first, second)
		} else {
			refuses(t, want, "main", first, second)
		}
		takes(t, "main", first, wide)
		takes(t, "main", second, first)
	}
}
