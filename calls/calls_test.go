package calls_test

import (
	"math"
	"slices"
	"strings"
	"testing"

	"sheerleg/api"
	"sheerleg/asm"
	"sheerleg/bind"
	"sheerleg/calls"
)

// numbers are those that any call may be given.
func numbers() []int {
	return []int{math.MinInt, math.MinInt + 1, -1 << 32, -65536, -257, -256, -129, -128, -3, -2, -1, 0, 1, 2, 3, 7, 8, 9, 127, 128, 255, 256, 257, 65535, 65536, 1 << 31, 1 << 32, 1<<32 + 1, math.MaxInt - 1, math.MaxInt}
}

// operations are those that there are, and such as there are not.
func operations() []int {
	l := numbers()
	for op := -1; op < 32; op++ {
		l = append(l, op)
	}
	return append(l, 256+api.OpCall, 256+api.OpFunc, -api.OpCall, api.OpCall<<32, 1<<32+api.OpVia)
}

// bound is the program of a text, whose lines are told one by one, or several with a / between.
func bound(t *testing.T, lines ...string) api.Program {
	t.Helper()
	s := strings.ReplaceAll(strings.Join(lines, "\n"), " / ", "\n")
	o, at, e := asm.Parse(s)
	if e != api.OK {
		t.Fatalf("%v at line %d of\n%s", e, at, s)
	}
	p, r := bind.Bind([]api.Object{o}, "main")
	if r.Why != api.OK {
		t.Fatalf("%v of\n%s", r, s)
	}
	return p
}

// does is an instruction with a class, and the number to which it refers.
type does struct {
	op, c, to int
}

// fun is a function with such instructions; slots and numbers tell nothing, but are there.
func fun(l ...does) api.Fun {
	f := api.Fun{Name: "f", F: api.Func{Class: 5}}
	for _, x := range l {
		f.F.Code = append(f.F.Code, api.Instr{Op: x.op, A: 1, B: 1, C: x.c, N: 1})
		f.Refs = append(f.Refs, x.to)
	}
	return f
}

// dat is data whose words refer to these.
func dat(refs ...int) api.Dat {
	return api.Dat{D: api.Data{Kind: 1, Words: make([]int64, len(refs))}, Refs: refs}
}

// answers are those of all calls.
type answers struct {
	direct, values, refers, vias, datas [][]int
}

func ask(p api.Program) answers {
	return answers{calls.Direct(p), calls.Values(p), calls.Refers(p), calls.Vias(p), calls.Datas(p)}
}

func same(a, b [][]int) bool {
	return slices.EqualFunc(a, b, slices.Equal[[]int])
}

// holds holds all calls to what they answer of p.
func holds(t *testing.T, p api.Program, want answers) {
	t.Helper()
	got := ask(p)
	for _, x := range []struct {
		what      string
		got, want [][]int
	}{{"Direct", got.direct, want.direct}, {"Values", got.values, want.values}, {"Refers", got.refers, want.refers}, {"Vias", got.vias, want.vias}, {"Datas", got.datas, want.datas}} {
		if !same(x.got, x.want) {
			t.Errorf("%s(%+v) = %v; want %v", x.what, p, x.got, x.want)
		}
	}
}

// one is what is answered of the first function, of which alone there is something, of so many.
func one(funs int, direct, values, refers, vias, datas []int) answers {
	first := func(l []int) [][]int {
		all := make([][]int, funs)
		all[0] = l
		return all
	}
	return answers{first(direct), first(values), first(refers), first(vias), first(datas)}
}

// Example 1.
func TestExample(t *testing.T) {
	p := bound(t, "proc main f0 / call 0 @main / return 0")
	holds(t, p, one(1, []int{0}, nil, []int{0}, nil, nil))
	if l := calls.Refers(p); !same(l, [][]int{{0}}) {
		t.Errorf("Refers: %v", l)
	}
}

// play is a program whose functions refer to one another, and to themselves: last 0, main 1, two 2, once 3, ident 4, lone 5; own 0, table 1, count 2, more 3.
func play(t *testing.T) api.Program {
	t.Helper()
	return bound(t,
		"proc last f0 / return 0",
		"proc main f0 / range 0 16 / slots n n f1r f0 f1",
		"via 0 2 f1r / call 0 @two / load 0 1 @count / defer 0 @once / pick 2 1 @table / call 0 @two / func 4 @once / via 0 3 f0 / func 3 @last / store 0 1 @own / load 1 0 @count / pick 3 0 @more / call 0 @main / via 1 2 f1r / nop / return 0",
		"data own n local / word 5",
		"proc two f1r / slots n f1r / pick 1 0 @table / return 0",
		"proc once f1 / slots n / load 0 0 @count / return 0",
		"data table f1r / word nil / word @ident / word @two / word @ident",
		"proc ident f1r / slots n f0 / store 0 0 @own / via 0 1 f0 / return 0",
		"data count n / data more f0 / word @last / word nil",
		"proc lone f0 local / range 0 4 / slots n f1 / defer 0 @lone / func 1 @once / call 0 @once / return 0")
}

// P25.1: of each function, also of those that nobody calls, what it has.
func TestPlay(t *testing.T) {
	holds(t, play(t), answers{
		direct: [][]int{nil, {1, 2, 3}, nil, nil, nil, {3, 5}},
		values: [][]int{nil, {0, 2, 3, 4}, {2, 4}, nil, nil, {3}},
		refers: [][]int{nil, {0, 1, 2, 3, 4}, {2, 4}, nil, nil, {3, 5}},
		vias:   [][]int{nil, {0, 3}, nil, nil, {0}, nil},
		datas:  [][]int{nil, {0, 1, 2, 3}, {1}, {2}, {0}, nil},
	})
}

// P25.1: of each operation, also of such as there are not, what alone it has: call and defer call, func and pick take, via has a class, load, store and pick have data.
func TestOperations(t *testing.T) {
	for _, op := range operations() {
		var direct, values, vias, datas []int
		switch op {
		case api.OpCall, api.OpDefer:
			direct = []int{1}
		case api.OpFunc:
			values = []int{1}
		case api.OpPick:
			values, datas = []int{2}, []int{1}
		case api.OpVia:
			vias = []int{3}
		case api.OpLoad, api.OpStore:
			datas = []int{1}
		}
		p := api.Program{Funs: []api.Fun{fun(does{op, 3, 1}), {}, {}}, Dats: []api.Dat{dat(0), dat(2)}}
		holds(t, p, one(3, direct, values, slices.Concat(direct, values), vias, datas))
		p.Funs[0].F.Code[0] = api.Instr{Op: op, A: 5, B: -6, C: 3, N: math.MaxInt64}
		holds(t, p, one(3, direct, values, slices.Concat(direct, values), vias, datas))
	}
}

// P25.1: a function that calls, defers and takes the same other one, or itself, has it once in each list.
func TestTwice(t *testing.T) {
	for _, to := range []int{0, 1, 2} {
		l := []int{to}
		main := fun(does{api.OpCall, 0, to}, does{api.OpDefer, 0, to}, does{api.OpFunc, 0, to})
		holds(t, api.Program{Funs: []api.Fun{main, {}, {}}}, one(3, l, l, l, nil, nil))
		main = fun(does{api.OpDefer, 0, to}, does{api.OpPick, 0, 0}, does{api.OpDefer, 0, to}, does{api.OpPick, 0, 0}, does{api.OpFunc, 0, to})
		holds(t, api.Program{Funs: []api.Fun{main, {}, {}}, Dats: []api.Dat{dat(to, to)}}, one(3, l, l, l, nil, []int{0}))
	}
	main := fun(does{api.OpCall, 0, 2}, does{api.OpFunc, 0, 3}, does{api.OpCall, 0, 2}, does{api.OpFunc, 0, 1}, does{api.OpFunc, 0, 3}, does{api.OpDefer, 0, 1}, does{api.OpCall, 0, 0}, does{api.OpCall, 0, 1})
	holds(t, api.Program{Funs: []api.Fun{main, {}, {}, {}}}, one(4, []int{0, 1, 2}, []int{1, 3}, []int{0, 1, 2, 3}, nil, nil))
}

// P25.1: load, store and pick of the same data, and of others; data of which nobody picks take no value.
func TestDatas(t *testing.T) {
	dats := []api.Dat{dat(0), dat(1), dat(2)}
	for _, c := range []struct {
		l             []does
		values, datas []int
	}{
		{[]does{{api.OpLoad, 0, 1}, {api.OpStore, 0, 1}, {api.OpPick, 0, 1}}, []int{1}, []int{1}},
		{[]does{{api.OpPick, 0, 2}, {api.OpStore, 0, 0}, {api.OpLoad, 0, 2}, {api.OpLoad, 0, 0}}, []int{2}, []int{0, 2}},
		{[]does{{api.OpStore, 0, 2}, {api.OpLoad, 0, 1}, {api.OpStore, 0, 0}}, nil, []int{0, 1, 2}},
		{[]does{{api.OpPick, 0, 2}, {api.OpPick, 0, 0}, {api.OpPick, 0, 2}}, []int{0, 2}, []int{0, 2}},
		{[]does{{api.OpLoad, 0, 2}, {api.OpLoad, 0, 2}}, nil, []int{2}},
		{nil, nil, nil},
	} {
		holds(t, api.Program{Funs: []api.Fun{fun(c.l...), {}, {}}, Dats: dats}, one(3, nil, c.values, c.values, nil, c.datas))
	}
}

// P25.1: words of data of which one is picked refer to functions, to the same one twice, to nobody, and to what is no function; the kind turns nothing.
func TestPick(t *testing.T) {
	for _, c := range []struct {
		words, values []int
	}{
		{nil, nil}, {[]int{-1}, nil}, {[]int{-1, -1, -1}, nil}, {[]int{2}, []int{2}}, {[]int{2, 2}, []int{2}}, {[]int{-1, 2, -1, 0, 2, -1}, []int{0, 2}}, {[]int{2, 1, 0}, []int{0, 1, 2}}, {[]int{3, 1, -2, math.MaxInt, math.MinInt}, []int{1}},
	} {
		for _, kind := range numbers() {
			d := dat(c.words...)
			d.D.Kind = kind
			p := api.Program{Funs: []api.Fun{fun(does{api.OpPick, 0, 1}), {}, {}}, Dats: []api.Dat{dat(0), d}}
			holds(t, p, one(3, nil, c.values, c.values, nil, []int{1}))
		}
	}
	for _, n := range numbers() {
		d := dat(-1, -1)
		d.D.Words = []int64{int64(n), 1}
		p := api.Program{Funs: []api.Fun{fun(does{api.OpPick, 0, 0}), {}, {}}, Dats: []api.Dat{d}}
		holds(t, p, one(3, nil, nil, nil, nil, []int{0}))
	}
}

// P25.1: numbers that are none of the functions, or of the data, do not count, however many there are of the others.
func TestNumbers(t *testing.T) {
	for _, c := range [][2]int{{1, 0}, {1, 1}, {3, 0}, {3, 2}, {2, 7}, {9, 1}, {257, 129}} {
		for _, n := range append(numbers(), 4, 5, 6, c[0]-1, c[0], c[0]+1, c[1]-1, c[1], c[1]+1) {
			var direct, datas []int
			if 0 <= n && n < c[0] {
				direct = []int{n}
			}
			if 0 <= n && n < c[1] {
				datas = []int{n}
			}
			p := api.Program{Funs: make([]api.Fun, c[0]), Dats: make([]api.Dat, c[1])}
			p.Funs[0] = fun(does{api.OpCall, 0, n}, does{api.OpLoad, 0, n})
			holds(t, p, one(c[0], direct, nil, direct, nil, datas))
			p.Funs[0] = fun(does{api.OpDefer, 0, n}, does{api.OpStore, 0, n})
			holds(t, p, one(c[0], direct, nil, direct, nil, datas))
			p.Funs[0] = fun(does{api.OpFunc, 0, n}, does{api.OpPick, 0, n})
			holds(t, p, one(c[0], nil, direct, direct, nil, datas))
			if c[1] > 0 {
				p.Funs[0] = fun(does{api.OpPick, 0, c[1] - 1})
				p.Dats[c[1]-1] = dat(-1, n)
				holds(t, p, one(c[0], nil, direct, direct, nil, []int{c[1] - 1}))
			}
		}
	}
}

// P25.1: classes of via instructions from 0 to 7 alone, rising, each once; to what they refer turns nothing.
func TestVias(t *testing.T) {
	for _, class := range append(numbers(), 4, 5, 6, 10, 15, 16) {
		var want []int
		if 0 <= class && class < 8 {
			want = []int{class}
		}
		for _, to := range numbers() {
			p := api.Program{Funs: []api.Fun{fun(does{api.OpVia, class, to}), {}}, Dats: []api.Dat{dat(1)}}
			holds(t, p, one(2, nil, nil, nil, want, nil))
			p.Funs[0] = fun(does{api.OpVia, class, to}, does{api.OpVia, class, to})
			holds(t, p, one(2, nil, nil, nil, want, nil))
		}
	}
	main := fun(does{api.OpVia, 7, -1}, does{api.OpVia, 8, -1}, does{api.OpVia, 0, -1}, does{api.OpVia, -1, -1}, does{api.OpVia, 7, -1}, does{api.OpVia, 3, -1}, does{api.OpCall, 4, 0})
	holds(t, api.Program{Funs: []api.Fun{main}}, one(1, []int{0}, nil, []int{0}, []int{0, 3, 7}, nil))
	main.Refs = nil
	holds(t, api.Program{Funs: []api.Fun{main}}, one(1, nil, nil, nil, []int{0, 3, 7}, nil))
}

// P25.1: what stands behind the last number refers to nobody; numbers behind the last instruction, and word, are nobody's.
func TestRefs(t *testing.T) {
	main := fun(does{api.OpCall, 0, 1}, does{api.OpFunc, 0, 2}, does{api.OpPick, 0, 0}, does{api.OpLoad, 0, 1}, does{api.OpDefer, 0, 3})
	for refs, want := range []answers{
		one(6, nil, nil, nil, nil, nil),
		one(6, []int{1}, nil, []int{1}, nil, nil),
		one(6, []int{1}, []int{2}, []int{1, 2}, nil, nil),
		one(6, []int{1}, []int{2, 4, 5}, []int{1, 2, 4, 5}, nil, []int{0}),
		one(6, []int{1}, []int{2, 4, 5}, []int{1, 2, 4, 5}, nil, []int{0, 1}),
		one(6, []int{1, 3}, []int{2, 4, 5}, []int{1, 2, 3, 4, 5}, nil, []int{0, 1}),
	} {
		cut := main
		cut.Refs = main.Refs[:refs:refs]
		p := api.Program{Funs: []api.Fun{cut, {}, {}, {}, {}, {}}, Dats: []api.Dat{dat(4, 5), {}}}
		holds(t, p, want)
		if refs == 5 {
			p.Funs[0].Refs = append(p.Funs[0].Refs, 0, 4, -1, 5)
			holds(t, p, want)
		}
	}
	for words, want := range [][]int{nil, {1}, {1, 2}, {0, 1, 2}, {0, 1, 2}} {
		d := dat(1, 2, 0)
		d.D.Words = make([]int64, words)
		p := api.Program{Funs: []api.Fun{fun(does{api.OpPick, 0, 0}), {}, {}}, Dats: []api.Dat{d}}
		holds(t, p, one(3, nil, want, want, nil, []int{0}))
	}
	holds(t, api.Program{Funs: []api.Fun{{Refs: []int{0, 0, 0}}}, Dats: []api.Dat{{Refs: []int{0}}}}, one(1, nil, nil, nil, nil, nil))
}

// P25.1: programs without functions, and functions with nothing in them; the entry, and whence they come, turn nothing.
func TestNothing(t *testing.T) {
	holds(t, api.Program{}, answers{})
	holds(t, api.Program{Funs: []api.Fun{}, Dats: []api.Dat{dat(0, 1)}}, answers{})
	for _, n := range numbers() {
		holds(t, api.Program{Entry: n}, answers{})
		p := play(t)
		want := ask(p)
		p.Entry = n
		for i := range p.Funs {
			p.Funs[i].File, p.Funs[i].Item, p.Funs[i].Name = n, n, ""
			p.Funs[i].F.Class, p.Funs[i].F.Kinds, p.Funs[i].F.Relocs = n, nil, []api.Reloc{{At: n, Sym: n}}
		}
		holds(t, p, want)
	}
	nobody := make([][]int, 3)
	holds(t, api.Program{Funs: make([]api.Fun, 3)}, answers{nobody, nobody, nobody, nobody, nobody})
	holds(t, api.Program{Funs: make([]api.Fun, 3), Dats: []api.Dat{{}, dat(0, 1, 2)}}, answers{nobody, nobody, nobody, nobody, nobody})
}
