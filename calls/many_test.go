package calls_test

import (
	"fmt"
	"slices"
	"testing"

	"sheerleg/api"
	"sheerleg/calls"
)

// chance gives numbers that look as if they hung on nothing, always the same ones.
type chance uint64

func (c *chance) next(n int) int {
	*c = *c*6364136223846793005 + 1442695040888963407
	return int(*c >> 33 % chance(n))
}

// pick is one of l.
func (c *chance) pick(l []int) int {
	return l[c.next(len(l))]
}

// number is mostly one of so many things, or none.
func (c *chance) number(many int) int {
	if c.next(12) == 0 {
		return c.pick(numbers())
	}
	return c.next(many+2) - 1
}

// refs are so many numbers of so many things, or a few more, or fewer.
func (c *chance) refs(count, many int) []int {
	if c.next(5) == 0 {
		count = max(0, count+c.next(5)-2)
	}
	l := make([]int, count)
	for i := range l {
		l[i] = c.number(many)
	}
	return l
}

// code is instructions of which most refer to something, or have a class.
func (c *chance) code() []api.Instr {
	often := []int{api.OpLoad, api.OpStore, api.OpFunc, api.OpPick, api.OpCall, api.OpVia, api.OpDefer}
	l := make([]api.Instr, c.next(9))
	for i := range l {
		op := c.pick(often)
		if c.next(6) == 0 {
			op = c.pick(operations())
		}
		l[i] = api.Instr{Op: op, A: c.number(8), B: c.number(8), C: c.number(api.Classes), N: int64(c.number(8))}
	}
	return l
}

// some is a program in which numbers may be wrong.
func (c *chance) some() api.Program {
	p := api.Program{Funs: make([]api.Fun, c.next(7)), Dats: make([]api.Dat, c.next(5)), Entry: c.number(6)}
	for i := range p.Funs {
		code := c.code()
		p.Funs[i] = api.Fun{F: api.Func{Class: c.number(api.Classes), Code: code}, Refs: c.refs(len(code), max(len(p.Funs), len(p.Dats)))}
	}
	for i := range p.Dats {
		words := c.next(5)
		p.Dats[i] = api.Dat{D: api.Data{Kind: c.number(9), Words: make([]int64, words)}, Refs: c.refs(words, len(p.Funs))}
	}
	return p
}

// has tells whether the function has an instruction with the operation that refers to the number.
func has(f api.Fun, op, number int) bool {
	for i, x := range f.F.Code {
		if x.Op == op && i < len(f.Refs) && f.Refs[i] == number {
			return true
		}
	}
	return false
}

// which are those of so many numbers of which it is so.
func which(many int, is func(number int) bool) []int {
	var l []int
	for n := range many {
		if is(n) {
			l = append(l, n)
		}
	}
	return l
}

func takesOracle(p api.Program, f api.Fun, number int) bool {
	for at, d := range p.Dats {
		words := d.Refs[:min(len(d.Refs), len(d.D.Words))]
		if has(f, api.OpPick, at) && slices.Contains(words, number) {
			return true
		}
	}
	return has(f, api.OpFunc, number)
}

// oracle asks of each number whether it is in a list.
func oracle(p api.Program) answers {
	var all answers
	for _, f := range p.Funs {
		direct := func(n int) bool { return has(f, api.OpCall, n) || has(f, api.OpDefer, n) }
		takes := func(n int) bool { return takesOracle(p, f, n) }
		via := func(n int) bool {
			return slices.ContainsFunc(f.F.Code, func(x api.Instr) bool { return x.Op == api.OpVia && x.C == n })
		}
		data := func(n int) bool {
			return has(f, api.OpLoad, n) || has(f, api.OpStore, n) || has(f, api.OpPick, n)
		}
		all.direct = append(all.direct, which(len(p.Funs), direct))
		all.values = append(all.values, which(len(p.Funs), takes))
		all.refers = append(all.refers, which(len(p.Funs), func(n int) bool { return direct(n) || takes(n) }))
		all.vias = append(all.vias, which(8, via))
		all.datas = append(all.datas, which(len(p.Dats), data))
	}
	return all
}

// P25.1: many programs, held against the oracle; none is changed.
func TestMany(t *testing.T) {
	c := chance(25)
	seen := [5]int{}
	for range 20000 {
		p := c.some()
		was := fmt.Sprint(p)
		want := oracle(p)
		holds(t, p, want)
		if now := fmt.Sprint(p); now != was {
			t.Errorf("%v came to be %v", was, now)
		}
		for i, lists := range [][][]int{want.direct, want.values, want.refers, want.vias, want.datas} {
			for _, l := range lists {
				seen[i] += len(l)
			}
		}
		if t.Failed() {
			return
		}
	}
	if slices.Min(seen[:]) < 20000 {
		t.Errorf("there are %v", seen)
	}
}

// turned is p, each function's instructions, with to what they refer, in another order.
func (c *chance) turned(p api.Program) api.Program {
	funs := slices.Clone(p.Funs)
	for at, f := range funs {
		many := len(f.F.Code)
		f.F.Code, f.Refs = slices.Clone(f.F.Code), slices.Clone(f.Refs)
		for i := range many {
			j := c.next(i + 1)
			f.F.Code[i], f.F.Code[j] = f.F.Code[j], f.F.Code[i]
			f.Refs[i], f.Refs[j] = f.Refs[j], f.Refs[i]
		}
		funs[at] = f
	}
	p.Funs = funs
	return p
}

// P25.2: the order of a function's instructions turns nothing.
func TestOrder(t *testing.T) {
	c := chance(252)
	for range 300 {
		p := play(t)
		holds(t, c.turned(p), ask(p))
		p = c.some()
		for i, f := range p.Funs {
			p.Funs[i].Refs = c.refs(len(f.F.Code), 6)
			for len(p.Funs[i].Refs) < len(f.F.Code) {
				p.Funs[i].Refs = append(p.Funs[i].Refs, -1)
			}
			p.Funs[i].Refs = p.Funs[i].Refs[:len(f.F.Code)]
		}
		holds(t, c.turned(p), ask(p))
	}
	p := play(t)
	want := ask(p)
	for _, f := range p.Funs {
		slices.Reverse(f.F.Code)
		slices.Reverse(f.Refs)
	}
	holds(t, p, want)
}

// fill writes over all of l, up to its capacity.
func fill(l []int) {
	l = l[:cap(l)]
	for i := range l {
		l[i] = 77
	}
}

// spoil writes over all lists of p.
func spoil(p api.Program) {
	for i, f := range p.Funs {
		fill(f.Refs)
		for j := range f.F.Code {
			f.F.Code[j] = api.Instr{Op: 77}
		}
		p.Funs[i] = api.Fun{}
	}
	for i, d := range p.Dats {
		fill(d.Refs)
		p.Dats[i] = api.Dat{}
	}
}

// The rules: what is answered shares no memory with the program, with a later answer, or list by list.
func TestShares(t *testing.T) {
	for _, call := range []func(p api.Program) [][]int{calls.Direct, calls.Values, calls.Refers, calls.Vias, calls.Datas} {
		p := play(t)
		was := fmt.Sprint(p)
		first, second := call(p), call(p)
		want := fmt.Sprint(second)
		for i, l := range first {
			others := slices.Delete(slices.Clone(first), i, i+1)
			other := fmt.Sprint(others)
			fill(l)
			if fmt.Sprint(others) != other {
				t.Errorf("the list %d of %s shares memory", i, want)
			}
		}
		clear(first)
		if now := fmt.Sprint(p); now != was {
			t.Errorf("%s came to be %s", was, now)
		}
		if third := call(p); fmt.Sprint(second) != want || fmt.Sprint(third) != want {
			t.Errorf("%v, %v; want %s", second, third, want)
		}
		spoil(p)
		if fmt.Sprint(second) != want {
			t.Errorf("%v; want %s", second, want)
		}
	}
}

// P7: each call ends at programs of all sorts.
func TestEnds(t *testing.T) {
	for _, op := range operations() {
		for _, n := range numbers() {
			f := api.Fun{File: n, Item: n, F: api.Func{Class: n, Kinds: []int{n}, Pad: n, From: n, To: n, Lines: []api.Line{{At: n, Line: n}}, Code: []api.Instr{{Op: op, A: n, B: n, C: n, N: int64(n)}}, Relocs: []api.Reloc{{At: n, Sym: n}}}, Refs: []int{n}}
			d := api.Dat{File: n, Item: n, D: api.Data{Kind: n, Words: []int64{int64(n)}, Relocs: []api.Reloc{{At: n, Sym: n}}}, Refs: []int{n}}
			long := f
			long.Refs = []int{n, n, n}
			bare := f
			bare.Refs = nil
			for _, p := range []api.Program{{Funs: []api.Fun{f}, Entry: n}, {Funs: []api.Fun{f}, Dats: []api.Dat{d}}, {Funs: []api.Fun{{}, long}, Dats: []api.Dat{{}, d}}, {Funs: []api.Fun{bare}, Dats: []api.Dat{d}}, {Dats: []api.Dat{d}}} {
				holds(t, p, oracle(p))
			}
		}
	}
}

// P7: many functions and data, many instructions in one, and many words.
func TestGreat(t *testing.T) {
	const many = 3000
	p := api.Program{Funs: make([]api.Fun, many), Dats: make([]api.Dat, 2)}
	rising := make([]int, many)
	falling := make([]int, many)
	for i := range many {
		rising[i], falling[i] = i, many-1-i
	}
	var all []does
	for range 10 {
		for i := range many {
			all = append(all, does{api.OpCall, 0, many - 1 - i}, does{api.OpPick, i, 1}, does{api.OpVia, i, i})
		}
	}
	p.Funs[0] = fun(all...)
	p.Dats[1] = dat(slices.Repeat(falling, 10)...)
	holds(t, p, one(many, rising, rising, rising, []int{0, 1, 2, 3, 4, 5, 6, 7}, []int{1}))
	for i := range p.Funs {
		p.Funs[i] = fun(does{api.OpDefer, 0, falling[i]}, does{api.OpFunc, 0, i})
	}
	got := ask(p)
	for i := range many {
		want := []int{min(i, falling[i]), max(i, falling[i])}
		if !slices.Equal(got.direct[i], []int{falling[i]}) || !slices.Equal(got.values[i], []int{i}) || !slices.Equal(got.refers[i], slices.Compact(want)) {
			t.Fatalf("%d: %v, %v, %v", i, got.direct[i], got.values[i], got.refers[i])
		}
	}
}
