package bind_test

import (
	"fmt"
	"reflect"
	"slices"
	"strings"
	"testing"

	"sheerleg/api"
	"sheerleg/bind"
	"sheerleg/object"
	"sheerleg/op"
	"sheerleg/scope"
	"sheerleg/verify"
)

// chance gives numbers that look as if they hung on nothing, always the same ones.
type chance uint64

func (c *chance) next(n int) int {
	*c = *c*6364136223846793005 + 1442695040888963407
	return int(*c >> 33 % chance(n))
}

// seldom is true once in so many times.
func (c *chance) seldom(n int) bool {
	return c.next(n) == 0
}

// thing is what a name stands for in some files: each has its own, if it is local there.
type thing struct {
	name, kind string
	isData     bool
}

// things are those of the names that a world has: functions of the classes 0 to 3, and data of the kinds 0 to 2.
func things() []thing {
	var l []thing
	for i := range 8 {
		l = append(l, thing{fmt.Sprint("p", i), []string{"f0", "f0r", "f1", "f1r"}[i%4], false})
	}
	for i := range 6 {
		l = append(l, thing{fmt.Sprint("d", i), []string{"n", "f0", "f0r"}[i%3], true})
	}
	return l
}

// declared is a thing, as a file has it: how it is declared, and what it is there.
type declared struct {
	thing
	how string // extern, local, or nothing: global
}

// declares chooses which things a file declares, and how: those of which it is the owner as globals.
func (c *chance) declares(file, files int) []declared {
	var l []declared
	for i, x := range things() {
		how := ""
		isOwner := i%files == file
		if c.seldom(400) {
			isOwner = !isOwner
		}
		if !isOwner {
			if c.next(3) > 0 {
				continue
			}
			how = []string{"local", "extern", "extern", "extern"}[c.next(4)]
		}
		if how == "local" || c.seldom(400) {
			if c.next(2) == 0 {
				x.isData, x.kind = !x.isData, "f0"
			} else {
				x.kind = "f1"
			}
		}
		l = append(l, declared{x, how})
	}
	for i := range l {
		j := c.next(i + 1)
		l[i], l[j] = l[j], l[i]
	}
	return l
}

// pick is one of the names of things of these kinds, or nothing.
func (c *chance) pick(l []declared, isData bool, kinds ...string) (declared, bool) {
	of := slices.DeleteFunc(slices.Clone(l), func(d declared) bool { return d.isData != isData || !slices.Contains(kinds, d.kind) })
	if len(of) == 0 {
		return declared{}, false
	}
	return of[c.next(len(of))], true
}

// slot is where functions of some.text have those of the kind.
func slot(kind string) int {
	return 3 + slices.Index([]string{"f0", "f0r", "f1", "f1r"}, kind)
}

// instr is a line of an instruction that may refer to a thing.
func (c *chance) instr(l []declared) string {
	all := []string{"f0", "f0r", "f1", "f1r"}
	short := []string{"", " short"}[c.next(2)]
	switch c.next(8) {
	case 0:
		if d, ok := c.pick(l, true, "n"); ok {
			return fmt.Sprint([]string{"load", "store"}[c.next(2)], " 0 1 @", d.name, short)
		}
	case 1:
		if d, ok := c.pick(l, true, all...); ok {
			return fmt.Sprint("pick ", slot(d.kind), " 0 @", d.name, short)
		}
	case 2:
		if d, ok := c.pick(l, false, all...); ok {
			return fmt.Sprint("func ", slot(d.kind), " @", d.name, short)
		}
	case 3, 4:
		if d, ok := c.pick(l, false, all...); ok {
			return fmt.Sprint("call 0 @", d.name, short)
		}
	case 5:
		if d, ok := c.pick(l, false, "f0", "f1"); ok {
			return fmt.Sprint("defer 0 @", d.name, short)
		}
	}
	return []string{"nop", "set 0 7", "via 0 5 f1", "in 1", "recover 0 1"}[c.next(5)]
}

// text is that of a file that declares these things.
func (c *chance) text(l []declared) []string {
	var lines []string
	for _, d := range l {
		sort := map[bool]string{true: "data ", false: "proc "}[d.isData]
		if d.how == "extern" {
			lines = append(lines, "extern "+sort+d.name+" "+d.kind)
			continue
		}
		lines = append(lines, sort+d.name+" "+d.kind+" "+d.how)
		many := c.next(5)
		if !d.isData {
			lines = append(lines, fmt.Sprint("range 0 ", many+1), "slots n n n f0 f0r f1 f1r")
		}
		for range many {
			if !d.isData {
				lines = append(lines, c.instr(l))
			} else if d.kind == "n" {
				lines = append(lines, fmt.Sprint("word ", c.next(9)))
			} else if to, ok := c.pick(l, false, d.kind); ok && c.next(3) > 0 {
				lines = append(lines, "word @"+to.name)
			} else {
				lines = append(lines, "word nil")
			}
		}
		if !d.isData {
			lines = append(lines, "return 0")
		}
	}
	return lines
}

// some is files of which most are right, and bound to one another.
func (c *chance) some(t *testing.T) []api.Object {
	l := make([]api.Object, 1+c.next(6))
	for i := range l {
		l[i] = file(t, c.text(c.declares(i, len(l)))...)
		if c.seldom(60) {
			c.spoil(&l[i])
		}
	}
	if c.seldom(60) {
		l = append(l, slices.Repeat([]api.Object{{}}, c.next(7))...)
	}
	return l
}

// spoil makes one thing of o another one.
func (c *chance) spoil(o *api.Object) {
	if len(o.Symbols) > 0 {
		s := &o.Symbols[c.next(len(o.Symbols))]
		switch c.next(5) {
		case 0:
			s.Kind++
		case 1:
			s.Def++
		case 2:
			s.Name += "-"
		}
	}
	if len(o.Funcs) > 0 && c.next(2) == 0 {
		f := &o.Funcs[c.next(len(o.Funcs))]
		f.Code[c.next(len(f.Code))].A = c.next(8)
	}
	if len(o.Datas) > 0 && c.next(2) == 0 {
		o.Datas[c.next(len(o.Datas))].Kind ^= 1
	}
}

// sourceOracle tells which function, or data, a file's symbol stands for: the file, the sort, and which one there.
func sourceOracle(l []api.Object, file, sym int) [3]int {
	s := l[file].Symbols[sym]
	if s.Def >= 0 {
		return [3]int{file, s.Sort, s.Def}
	}
	for f, o := range l {
		for _, x := range o.Symbols {
			if x.Name == s.Name && x.Def >= 0 && !x.Local {
				return [3]int{f, x.Sort, x.Def}
			}
		}
	}
	return [3]int{-1, -1, -1}
}

// numberOracle counts what stands ahead.
func numberOracle(l []api.Object, source [3]int) int {
	n := source[2]
	for _, o := range l[:source[0]] {
		n += map[int]int{api.SymFunc: len(o.Funcs), api.SymData: len(o.Datas)}[source[1]]
	}
	return n
}

// refsOracle is the numbers of so many places, by references.
func refsOracle(l []api.Object, file, places int, relocs []api.Reloc) []int {
	refs := slices.Repeat([]int{-1}, places)
	for _, x := range relocs {
		refs[x.At] = numberOracle(l, sourceOracle(l, file, x.Sym))
	}
	return refs
}

func definerOracle(o api.Object, sort, def int) string {
	for _, s := range o.Symbols {
		if s.Sort == sort && s.Def == def {
			return s.Name
		}
	}
	return ""
}

// rejectOracle is why files may not be bound, with main as the entry, and where; and where main is.
func rejectOracle(l []api.Object, entry string) (api.Reject, [3]int) {
	if len(l) == 0 || len(l) > 6 {
		return api.Reject{Why: api.ErrMany, File: -1, Item: -1}, [3]int{}
	}
	for file, o := range l {
		if e, at := object.Check(o); e != api.OK {
			return api.Reject{Why: e, File: file, Item: at}, [3]int{}
		}
	}
	if r := scope.Check(l); r.Why != api.OK {
		return r, [3]int{}
	}
	for file, o := range l {
		for _, s := range o.Symbols {
			if s.Name == entry && s.Sort == api.SymFunc && s.Kind < 2 && s.Def >= 0 && !s.Local {
				return api.Reject{}, [3]int{file, s.Sort, s.Def}
			}
		}
	}
	return api.Reject{Why: api.ErrEntry, File: -1, Item: -1}, [3]int{}
}

func programOracle(l []api.Object, entry string) (api.Program, api.Reject) {
	r, at := rejectOracle(l, entry)
	if r.Why != api.OK {
		return api.Program{}, r
	}
	p := api.Program{Entry: numberOracle(l, at)}
	for file, o := range l {
		for i, f := range o.Funcs {
			p.Funs = append(p.Funs, api.Fun{File: file, Item: i, Name: definerOracle(o, api.SymFunc, i), F: f, Refs: refsOracle(l, file, len(f.Code), f.Relocs)})
		}
		for i, d := range o.Datas {
			p.Dats = append(p.Dats, api.Dat{File: file, Item: len(o.Funcs) + i, Name: definerOracle(o, api.SymData, i), D: d, Refs: refsOracle(l, file, len(d.Words), d.Relocs)})
		}
	}
	return p, r
}

// P24.1: many files, held against the oracle; each error comes, and no file is changed.
func TestMany(t *testing.T) {
	c := chance(24)
	seen := map[api.Errno]int{}
	refs := 0
	for range 4000 {
		l := c.some(t)
		was := fmt.Sprint(l)
		for _, entry := range []string{"p0", "p5", "p2", "d0"} {
			want, wantR := programOracle(l, entry)
			p, r := bind.Bind(l, entry)
			if r != wantR || fmt.Sprint(p) != fmt.Sprint(want) {
				t.Fatalf("Bind(%v, %q) = %v, %v; want %v, %v", l, entry, p, r, want, wantR)
			}
			seen[r.Why]++
			for _, f := range p.Funs {
				refs += len(f.F.Relocs)
			}
		}
		if now := fmt.Sprint(l); now != was {
			t.Fatalf("%v came to be %v", was, now)
		}
	}
	for _, e := range []api.Errno{api.OK, api.ErrMany, api.ErrTwice, api.ErrNone, api.ErrClass, api.ErrEntry, api.ErrName, api.ErrRange, api.ErrKind} {
		if seen[e] < 40 {
			t.Errorf("%v comes %d times", e, seen[e])
		}
	}
	if seen[api.OK] < 2000 || refs < 10000 {
		t.Errorf("%d are right, with %d references", seen[api.OK], refs)
	}
}

// P24.3: what is bound is right, and what is referred to has the sort, and the class, or kind, that the referring file tells.
func TestFollows(t *testing.T) {
	c := chance(243)
	seen := map[int]int{}
	for range 3000 {
		l := c.some(t)
		p, r := bind.Bind(l, "p0")
		if r.Why != api.OK {
			continue
		}
		checks(t, p, api.OK)
		for n, f := range p.Funs {
			finds(t, p, f.File, f.Item, n)
			syms := l[f.File].Symbols
			for i, to := range f.Refs {
				sym := verify.Sym(f.F, i)
				if (sym < 0) != (to < 0) {
					t.Fatalf("%v refers to %d by %d", f, to, sym)
				}
				if sym < 0 {
					continue
				}
				seen[f.F.Code[i].Op]++
				told := syms[sym].Kind
				if class, ok := verify.Class(f.F, syms, i); ok && class != told {
					t.Fatalf("%v calls a function of class %d as of %d", f, told, class)
				}
				if got := kindOf(p, op.Need(f.F.Code[i].Op), to); got != told {
					t.Fatalf("%v refers to what has the kind %d as of %d", f, got, told)
				}
			}
		}
		for _, d := range p.Dats {
			for _, to := range d.Refs {
				if to >= 0 && p.Funs[to].F.Class != d.D.Kind-1 {
					t.Fatalf("%v refers to a function of class %d", d, p.Funs[to].F.Class)
				}
			}
		}
		if t.Failed() {
			return
		}
	}
	for _, operation := range []int{api.OpLoad, api.OpStore, api.OpFunc, api.OpPick, api.OpCall, api.OpDefer} {
		if seen[operation] < 500 {
			t.Errorf("%s refers %d times", op.Name(operation), seen[operation])
		}
	}
}

// kindOf is the class of a function, or the kind of data, that is needed, by its number.
func kindOf(p api.Program, need, number int) int {
	if need == 3 || need == 4 {
		return p.Dats[number].D.Kind
	}
	return p.Funs[number].F.Class
}

// spoilFunc, spoilData write over all of the lists, up to their capacity.
func spoilFunc(f api.Func) {
	fill(f.Kinds, 77)
	fill(f.Lines, api.Line{At: 77})
	fill(f.Code, api.Instr{Op: 77})
	fill(f.Relocs, api.Reloc{At: 77})
}

func spoilData(d api.Data) {
	fill(d.Words, 77)
	fill(d.Relocs, api.Reloc{At: 77})
}

func fill[T any](l []T, x T) {
	l = l[:cap(l)]
	for i := range l {
		l[i] = x
	}
}

// The rules: what is answered shares no memory with the files, with a later answer, or list by list.
func TestShares(t *testing.T) {
	l := play(t)
	was := fmt.Sprint(l)
	first, second, third := bound(t, l, "main"), bound(t, l, "main"), bound(t, l, "main")
	want := fmt.Sprint(first)
	for i, f := range first.Funs {
		others := slices.Delete(slices.Clone(first.Funs), i, i+1)
		other := fmt.Sprint(others, first.Dats)
		spoilFunc(f.F)
		fill(f.Refs, 77)
		if fmt.Sprint(others, first.Dats) != other {
			t.Errorf("the function %d shares lists", i)
		}
	}
	for i, d := range first.Dats {
		others := slices.Delete(slices.Clone(first.Dats), i, i+1)
		other := fmt.Sprint(first.Funs, others)
		spoilData(d.D)
		fill(d.Refs, 77)
		if fmt.Sprint(first.Funs, others) != other {
			t.Errorf("the data %d share lists", i)
		}
	}
	fill(first.Funs, api.Fun{})
	fill(first.Dats, api.Dat{})
	if now := fmt.Sprint(l); now != was {
		t.Errorf("%v came to be %v", was, now)
	}
	if fourth := bound(t, l, "main"); fmt.Sprint(second) != want || fmt.Sprint(fourth) != want {
		t.Errorf("%v, %v; want %v", second, fourth, want)
	}
	for _, o := range l {
		for _, f := range o.Funcs {
			spoilFunc(f)
		}
		for _, d := range o.Datas {
			spoilData(d)
		}
		fill(o.Symbols, api.Symbol{Name: "spoilt"})
		fill(o.Funcs, api.Func{})
		fill(o.Datas, api.Data{})
	}
	if fmt.Sprint(second) != want || fmt.Sprint(third) != want {
		t.Errorf("%v, %v; want %v", second, third, want)
	}
}

// The rules: Refs share no memory with what they are of.
func TestSharesInOne(t *testing.T) {
	p := bound(t, play(t), "main")
	was := fmt.Sprint(p.Funs[0].F, p.Dats[0].D)
	fill(p.Funs[0].Refs, 77)
	fill(p.Dats[0].Refs, 77)
	if now := fmt.Sprint(p.Funs[0].F, p.Dats[0].D); now != was {
		t.Errorf("%v came to be %v", was, now)
	}
}

// P7: each call ends at files, and programs, of all sorts.
func TestEnds(t *testing.T) {
	for _, n := range numbers() {
		for _, name := range []string{"", "main", "\xff"} {
			s := api.Symbol{Name: name, Sort: n, Kind: n, Def: n}
			f := api.Func{Class: n, Kinds: []int{n}, Pad: n, From: n, To: n, Lines: []api.Line{{At: n, Line: n}}, Code: []api.Instr{{Op: n, A: n, B: n, C: n, N: int64(n)}}, Relocs: []api.Reloc{{At: n, Sym: n}}}
			d := api.Data{Kind: n, Words: []int64{int64(n)}, Relocs: []api.Reloc{{At: n, Sym: n}}}
			good := api.Object{Symbols: []api.Symbol{{Name: "main", Sort: api.SymFunc}}, Funcs: []api.Func{{Code: []api.Instr{{Op: api.OpReturn}}}}}
			for _, o := range []api.Object{{Symbols: []api.Symbol{s}}, {Symbols: good.Symbols, Funcs: []api.Func{f}}, {Symbols: []api.Symbol{s, good.Symbols[0]}, Funcs: []api.Func{f}}, {Datas: []api.Data{d}}, {Symbols: []api.Symbol{s}, Funcs: good.Funcs, Datas: []api.Data{d}}} {
				for _, l := range [][]api.Object{{o}, {good, o}, {o, good}, {o, o}} {
					want, wantR := programOracle(l, name)
					if p, r := bind.Bind(l, name); r != wantR || fmt.Sprint(p) != fmt.Sprint(want) {
						t.Errorf("Bind(%v, %q) = %v, %v; want %v, %v", l, name, p, r, want, wantR)
					}
				}
			}
			bind.Check(api.Program{Funs: []api.Fun{{F: f, Refs: []int{n}}}, Dats: []api.Dat{{D: d, Refs: []int{n}}}})
			bind.Check(api.Program{Funs: []api.Fun{{F: f, Refs: []int{n, n}}}, Dats: []api.Dat{{D: d}}})
		}
	}
}

// greatest is as many files as there may be, with as much in each as there may be; all refer to the last one's.
func greatest(t *testing.T) []api.Object {
	var l []api.Object
	for at := range 6 {
		var lines []string
		for i := range 12 {
			how := map[bool]string{true: "", false: " local"}[at == 5]
			lines = append(lines, fmt.Sprint("proc f", i, " f0", how), "slots n n")
			lines = append(lines, slices.Repeat([]string{map[bool]string{true: "call 0 @f0", false: "call 0 @g0"}[at == 5]}, 63)...)
			lines = append(lines, "return 0")
		}
		for i := range 8 {
			lines = append(lines, fmt.Sprint("data d", at, "x", i, " f0"))
			lines = append(lines, slices.Repeat([]string{"word @f11"}, 32)...)
		}
		if at < 5 {
			lines = append(lines, "extern proc g0 f0")
		} else {
			lines = slices.Insert(lines, 0, "proc g0 f0", "return 0")
			first := slices.Index(lines, "proc f11 f0")
			lines = slices.Delete(lines, first, slices.Index(lines, "data d5x0 f0"))
			lines = strings.Split(strings.ReplaceAll(strings.Join(lines, "\n"), "@f11", "@f10"), "\n")
		}
		l = append(l, file(t, lines...))
	}
	return l
}

// P24.1: the greatest files; P7: they, and long programs, are gone through in time.
func TestMuch(t *testing.T) {
	l := greatest(t)
	want, _ := programOracle(l, "f10")
	p := bound(t, l, "f10")
	if !reflect.DeepEqual(told(p), told(want)) || len(p.Funs) != 72 || len(p.Dats) != 48 || p.Funs[0].Refs[62] != 60 || p.Dats[40].Refs[31] != 71 || p.Entry != 71 {
		t.Errorf("%v", told(p))
	}
	checks(t, p, api.OK)
	const n = 200000
	long := api.Program{Funs: make([]api.Fun, n), Dats: make([]api.Dat, n), Entry: n - 1}
	long.Funs[n-1] = api.Fun{File: 1, F: api.Func{Code: slices.Repeat([]api.Instr{{Op: api.OpCall}}, n)}, Refs: slices.Repeat([]int{n - 1}, n)}
	long.Dats[n-1] = api.Dat{D: api.Data{Words: make([]int64, n)}, Refs: slices.Repeat([]int{n - 1}, n)}
	checks(t, long, api.OK)
	finds(t, api.Program{Funs: long.Funs}, 1, 0, n-1)
	long.Dats[n-1].Refs[n-1] = n
	checks(t, long, api.ErrRange)
}
