package chain_test

import (
	"math"
	"slices"
	"strings"
	"testing"

	"sheerleg/api"
	"sheerleg/asm"
	"sheerleg/bind"
	"sheerleg/chain"
)

// numbers are those that any call may be given.
func numbers() []int {
	return []int{math.MinInt, math.MinInt + 1, -1 << 32, -65536, -57, -56, -2, -1, 0, 1, 2, 3, 7, 8, 55, 56, 57, 4096, 65535, 1<<20 - 1, 1 << 20, 1<<20 + 1, 1 << 31, 1 << 32, 1<<32 + 1, math.MaxInt - 1, math.MaxInt}
}

// bound is the program of a text, whose lines are told one by one, or several with a / between.
func bound(t *testing.T, lines ...string) api.Program {
	t.Helper()
	s := strings.ReplaceAll(strings.Join(lines, "\n"), " / ", "\n")
	o, at, e := asm.Parse(s)
	if e != api.OK {
		t.Fatalf("%v at line %d of\n%s", e, at, s)
	}
	p, r := bind.Bind([]api.Object{o}, "main")
	if r.Why != api.OK {
		t.Fatalf("%v of\n%s", r, s)
	}
	return p
}

// does is an instruction with a class, and the number to which it refers.
type does struct {
	op, c, to int
}

// calls, defers, takes refer to a number, via to a class.
func calls(to int) does  { return does{api.OpCall, 0, to} }
func defers(to int) does { return does{api.OpDefer, 0, to} }
func takes(to int) does  { return does{api.OpFunc, 0, to} }
func via(class int) does { return does{api.OpVia, class, -1} }

// fun is a function of class 0 with a frame of so many words, and such instructions.
func fun(frame int, l ...does) api.Fun {
	f := api.Fun{F: api.Func{Pad: frame}}
	for _, x := range l {
		f.F.Code = append(f.F.Code, api.Instr{Op: x.op, C: x.c})
		f.Refs = append(f.Refs, x.to)
	}
	return f
}

// of is f of another class.
func of(class int, f api.Fun) api.Fun {
	f.F.Class = class
	return f
}

// program has these functions, and the first one as its entry; no two are of one file, or of one item.
func program(l ...api.Fun) api.Program {
	for at := range l {
		l[at].File, l[at].Item = 100-at, 200+2*at
	}
	return api.Program{Funs: l}
}

// at is why p is rejected at one of its functions.
func at(p api.Program, why api.Errno, number int) api.Reject {
	return api.Reject{Why: why, File: p.Funs[number].File, Item: p.Funs[number].Item}
}

// nowhere is why a program is rejected at no function of its own.
func nowhere(why api.Errno) api.Reject {
	return api.Reject{Why: why, File: -1, Item: -1}
}

// marks are what stands for a free one, f, and for one that is not, another letter.
func marks(s string) []bool {
	l := make([]bool, len(s))
	for i := range s {
		l[i] = s[i] == 'f'
	}
	return l
}

// needs holds Needs to what it answers; nil: nothing, and false.
func needs(t *testing.T, p api.Program, free []bool, want []int) {
	t.Helper()
	if l, ok := chain.Needs(p, free); !slices.Equal(l, want) || ok != (want != nil) {
		t.Errorf("Needs(%+v, %v) = %v, %v; want %v", p, free, l, ok, want)
	}
}

// check holds Check to what it answers.
func check(t *testing.T, p api.Program, free []bool, want api.Reject) {
	t.Helper()
	if r := chain.Check(p, free); r != want {
		t.Errorf("Check(%+v, %v) = %+v; want %+v", p, free, r, want)
	}
}

// way holds Way to what it answers.
func way(t *testing.T, p api.Program, free []bool, from int, want ...int) {
	t.Helper()
	if l := chain.Way(p, free, from); !slices.Equal(l, want) {
		t.Errorf("Way(%+v, %v, %d) = %v; want %v", p, free, from, l, want)
	}
}

// Example 1, and examples 4 and 5 of the whole.
func TestExamples(t *testing.T) {
	needs(t, program(fun(10)), marks("f"), []int{10})
	p := bound(t, "proc main f0 / call 0 @f / return 0", "proc f f0 nosplit / call 0 @g / return 0", "proc g f0 nosplit / call 0 @f / return 0")
	check(t, p, chain.Nosplit(p), at(p, api.ErrCycle, 1))
	p = bound(t, "proc f f0 nosplit / pad 54 / slots n n / return 0", "proc main f0 / call 0 @f / return 0")
	needs(t, p, chain.Nosplit(p), []int{56, 1})
	check(t, p, chain.Nosplit(p), at(p, api.ErrDeep, 1))
	p = bound(t, "proc f f0 nosplit / pad 53 / slots n n / return 0", "proc main f0 / call 0 @f / return 0")
	needs(t, p, chain.Nosplit(p), []int{55, 1})
	check(t, p, chain.Nosplit(p), api.Reject{})
}

// P27.1, Nosplit: of each function, be it called, or not.
func TestNosplit(t *testing.T) {
	p := program(fun(1), fun(2), fun(3, calls(3)), fun(4))
	for bits := range 16 {
		want := make([]bool, 4)
		for i := range want {
			want[i] = bits>>i&1 == 1
			p.Funs[i].F.Nosplit = want[i]
		}
		for _, entry := range []int{0, 2, 3, -1, 4} {
			p.Entry = entry
			if l := chain.Nosplit(p); !slices.Equal(l, want) {
				t.Errorf("Nosplit(%+v) = %v; want %v", p, l, want)
			}
		}
	}
	if l := chain.Nosplit(api.Program{}); len(l) != 0 {
		t.Errorf("of nothing: %v", l)
	}
	if l := chain.Nosplit(api.Program{Funs: []api.Fun{}, Entry: 7}); len(l) != 0 {
		t.Errorf("of nothing: %v", l)
	}
}

// P27.1, Needs: only what is handed in says who is free; the programmer's word alone says nothing.
func TestNosplitIsNotFree(t *testing.T) {
	p := program(fun(10, calls(1)), fun(20))
	for i := range p.Funs {
		p.Funs[i].F.Nosplit = true
	}
	needs(t, p, nil, []int{1, 1})
	needs(t, p, marks("f-"), []int{12, 1})
	needs(t, p, chain.Nosplit(p), []int{31, 20})
	p.Funs[0].F.Nosplit = false
	needs(t, p, marks("ff"), []int{31, 20})
}

// P27.1, Needs: frames of all sizes, of who is free, and of who is not; Spill, if that is more.
func TestNeedsFrames(t *testing.T) {
	for _, n := range numbers() {
		want := max(1, min(n, 1<<20))
		needs(t, program(fun(n)), marks("f"), []int{want})
		needs(t, program(fun(n)), marks("-"), []int{1})
		needs(t, program(fun(n, calls(1)), fun(3)), marks("ff"), []int{want + 4, 3})
		needs(t, program(fun(3, calls(1)), fun(n)), marks("ff"), []int{want + 4, want})
		needs(t, program(fun(3, calls(1)), fun(n)), marks("f-"), []int{5, 1})
		needs(t, program(fun(n, calls(1)), fun(3)), marks("-f"), []int{1, 3})
	}
	for slots := range 20 {
		for _, pad := range []int{-3, 0, 1, 7, 4096} {
			f := fun(pad)
			f.F.Kinds = make([]int, slots)
			needs(t, program(f), marks("f"), []int{max(1, slots+max(0, pad))})
			needs(t, program(f), marks("-"), []int{1})
		}
	}
	needs(t, program(api.Fun{}), marks("f"), []int{1})
}

// P27.1, Needs: a free one with whom it calls.
func TestNeeds(t *testing.T) {
	for _, x := range []func(to int) does{calls, defers} {
		// One that is checked, one that is free, and that one's.
		p := program(fun(10, x(1)), fun(20, x(2)), fun(5, x(3)), fun(7))
		needs(t, p, marks("f---"), []int{12, 1, 1, 1})
		needs(t, p, marks("ff--"), []int{33, 22, 1, 1})
		needs(t, p, marks("fff-"), []int{39, 28, 7, 1})
		needs(t, p, marks("ffff"), []int{45, 34, 13, 7})
		needs(t, p, marks("f-ff"), []int{12, 1, 13, 7})
		needs(t, p, marks("-f-f"), []int{1, 22, 1, 7})
		needs(t, p, marks("----"), []int{1, 1, 1, 1})
		// The greatest of several, not their sum, and not the first, or the last one; with one of them twice.
		p = program(fun(1, x(1), x(2), x(3), x(2)), fun(4), fun(9), fun(6))
		needs(t, p, marks("ffff"), []int{11, 4, 9, 6})
		needs(t, p, marks("ff-f"), []int{8, 4, 1, 6})
		needs(t, p, marks("f---"), []int{3, 1, 1, 1})
		// What is greatest is what lies behind, not the frame.
		p = program(fun(2, x(1), x(2)), fun(9), fun(3, x(3)), fun(8))
		needs(t, p, marks("ffff"), []int{15, 9, 12, 8})
		needs(t, p, marks("fff-"), []int{12, 9, 5, 1})
	}
	// A frame that is less than Spill counts as that, with whom it calls.
	needs(t, program(fun(0, calls(1)), fun(0, calls(2)), fun(-9)), marks("fff"), []int{5, 3, 1})
	// Ways that part, and meet.
	needs(t, program(fun(1, calls(1), calls(2)), fun(2, calls(3)), fun(3, calls(3)), fun(4)), marks("ffff"), []int{10, 7, 8, 4})
}

// P27.1, Needs: edges are those of the call graph: by classes to who is taken, not to who is taken alone.
func TestNeedsVia(t *testing.T) {
	p := program(fun(1, via(2), takes(1), takes(3)), of(2, fun(20)), of(2, fun(30)), of(3, fun(40)))
	needs(t, p, marks("ffff"), []int{22, 20, 1, 1})
	p.Funs[0] = fun(1, via(2), takes(1), takes(2))
	needs(t, p, marks("ffff"), []int{32, 20, 30, 1})
	needs(t, p, marks("ff-f"), []int{22, 20, 1, 1})
	p.Funs[0] = fun(1, takes(1), takes(2))
	needs(t, p, marks("ffff"), []int{1, 1, 1, 1})
	// One that is taken, and not called, takes.
	p = program(fun(5, via(3), takes(1)), fun(50, takes(2)), of(3, fun(7)))
	needs(t, p, marks("fff"), []int{13, 1, 7})
}

// P27.1, Needs: one that is not called needs Spill, be it marked, or not, and calls whom it may, also itself; those that it calls are not called by that.
func TestNeedsNotCalled(t *testing.T) {
	p := program(fun(5), fun(10, calls(2)), fun(20))
	needs(t, p, marks("fff"), []int{5, 1, 1})
	p = program(fun(5, calls(2)), fun(10, calls(2), calls(1), calls(0)), fun(20))
	needs(t, p, marks("fff"), []int{26, 1, 20})
	p.Entry = 1
	needs(t, p, marks("f-f"), []int{26, 1, 20})
	p.Entry = 2
	needs(t, p, marks("fff"), []int{1, 1, 20})
	// A live one that is not called has edges.
	p = program(fun(5, takes(1)), fun(10, calls(1), calls(0)))
	needs(t, p, marks("ff"), []int{5, 1})
	for _, entry := range []int{-1, 2, math.MinInt, math.MaxInt} {
		p.Entry = entry
		needs(t, p, marks("ff"), []int{1, 1})
	}
}

// P27.1, Needs: free may be shorter, or longer, than the list of functions.
func TestNeedsLengths(t *testing.T) {
	p := program(fun(10, calls(1)), fun(20, calls(2)), fun(30))
	needs(t, p, nil, []int{1, 1, 1})
	needs(t, p, []bool{}, []int{1, 1, 1})
	needs(t, p, marks("f"), []int{12, 1, 1})
	needs(t, p, marks("ff"), []int{33, 22, 1})
	needs(t, p, marks("fff"), []int{62, 51, 30})
	needs(t, p, marks("ffff"), []int{62, 51, 30})
	needs(t, p, marks("--fffffffffffffffff"), []int{1, 1, 30})
	needs(t, p, make([]bool, 99), []int{1, 1, 1})
	for _, free := range [][]bool{nil, {}, marks("f"), marks("ffff")} {
		if l, ok := chain.Needs(api.Program{}, free); len(l) != 0 || !ok {
			t.Errorf("of nothing, with %v: %v, %v", free, l, ok)
		}
	}
}

// P27.1, and P27.2: circles of free ones, with the first one that is on one.
func TestCircles(t *testing.T) {
	one := program(fun(5, calls(1)), fun(5, calls(1)))
	two := program(fun(5, calls(2)), fun(5, defers(2)), fun(5, calls(1)))
	three := program(fun(5, calls(3)), fun(5, calls(2)), fun(5, defers(3)), fun(5, calls(1)))
	start := program(fun(5, calls(1)), fun(5, calls(2)), fun(5, calls(0)))
	vias := program(fun(5, takes(2), calls(1)), fun(5, via(2)), of(2, fun(5, calls(1))))
	itself := program(fun(5, takes(1), via(4)), of(4, fun(5, via(4))))
	// Two circles, the one that is come to first being the one behind; and what leads to a circle, and away from it, by lesser numbers.
	many := program(fun(5, calls(4)), fun(5, calls(2)), fun(5, calls(3)), fun(5, calls(2)), fun(5, calls(5)), fun(5, calls(4), calls(1)))
	for _, x := range []struct {
		p     api.Program
		free  string
		first int
	}{
		{one, "ff", 1}, {one, "-f", 1}, {one, "fff", 1},
		{two, "fff", 1}, {two, "-ff", 1},
		{three, "ffff", 1}, {three, "-fff", 1},
		{start, "fff", 0}, {start, "ffff", 0},
		{vias, "fff", 1}, {vias, "-ff", 1},
		{itself, "ff", 1}, {itself, "-f", 1},
		{many, "ffffff", 2}, {many, "f---ff", 4}, {many, "--ff--", 2}, {many, "-fff-f", 2}, {many, "ff-fff", 4},
	} {
		free := marks(x.free)
		needs(t, x.p, free, nil)
		check(t, x.p, free, at(x.p, api.ErrCycle, x.first))
		for _, from := range append(numbers(), 4, 5, 6) {
			way(t, x.p, free, from)
		}
	}
	// With one that is not free, or beyond the list, or not called, there is none.
	for _, x := range []struct {
		p    api.Program
		free string
		want []int
	}{
		{one, "f-", []int{7, 1}}, {one, "f", []int{7, 1}}, {one, "", []int{1, 1}},
		{two, "ff-", []int{7, 7, 1}}, {two, "f-f", []int{13, 1, 7}}, {two, "ff", []int{7, 7, 1}},
		{three, "fff-", []int{7, 13, 7, 1}}, {three, "-f-f", []int{1, 7, 1, 13}},
		{start, "ff-", []int{13, 7, 1}}, {start, "-ff", []int{1, 13, 7}},
		{vias, "ff-", []int{13, 7, 1}}, {vias, "f-f", []int{7, 1, 7}},
		{itself, "f-", []int{7, 1}},
		{many, "f-f-f-", []int{13, 1, 7, 1, 7, 1}},
	} {
		free := marks(x.free)
		needs(t, x.p, free, x.want)
		check(t, x.p, free, api.Reject{})
	}
	one.Funs[0] = fun(5, takes(1))
	needs(t, one, marks("ff"), []int{5, 1})
	check(t, one, marks("ff"), api.Reject{})
}

// P27.2: what a call at the start, or at a function that is checked, writes, just at Limit, and one more.
func TestDeep(t *testing.T) {
	for _, x := range []struct {
		p      api.Program
		free   string
		reject api.Reject
	}{
		// At the start: the entry alone, with one that is checked, and with a free one.
		{program(fun(55)), "f", api.Reject{}},
		{program(fun(56)), "f", nowhere(api.ErrDeep)},
		{program(fun(53, calls(1)), fun(999)), "f-", api.Reject{}},
		{program(fun(54, calls(1)), fun(999)), "f-", nowhere(api.ErrDeep)},
		{program(fun(23, calls(1)), fun(31)), "ff", api.Reject{}},
		{program(fun(23, calls(1)), fun(32)), "ff", nowhere(api.ErrDeep)},
		{program(fun(24, calls(1)), fun(31)), "ff", nowhere(api.ErrDeep)},
		// At functions that are checked: by calls, by deferred calls, by classes; the first edge, and the last one.
		{program(fun(999, calls(1)), fun(55)), "-f", api.Reject{}},
		{program(fun(999, calls(1)), fun(56)), "-f", api.Reject{Why: api.ErrDeep, File: 100, Item: 200}},
		{program(fun(0, defers(1)), fun(56)), "-f", api.Reject{Why: api.ErrDeep, File: 100, Item: 200}},
		{program(fun(0, takes(1), via(0)), fun(55)), "-f", api.Reject{}},
		{program(fun(0, takes(1), via(0)), fun(56)), "-f", api.Reject{Why: api.ErrDeep, File: 100, Item: 200}},
		{program(fun(0, takes(1), via(1)), fun(56)), "-f", api.Reject{}},
		{program(fun(0, calls(1), calls(2)), fun(56), fun(1)), "-ff", api.Reject{Why: api.ErrDeep, File: 100, Item: 200}},
		{program(fun(0, calls(1), calls(2)), fun(1), fun(56)), "-ff", api.Reject{Why: api.ErrDeep, File: 100, Item: 200}},
		{program(fun(0, calls(1)), fun(0, calls(2)), fun(23, calls(3)), fun(31)), "--ff", api.Reject{}},
		{program(fun(0, calls(1)), fun(0, calls(2)), fun(23, calls(3)), fun(32)), "--ff", api.Reject{Why: api.ErrDeep, File: 99, Item: 202}},
		{program(fun(0, calls(1)), fun(0, calls(2)), fun(53, calls(3)), fun(99)), "--f-", api.Reject{}},
		{program(fun(0, calls(1)), fun(0, calls(2)), fun(54, calls(3)), fun(99)), "--f-", api.Reject{Why: api.ErrDeep, File: 99, Item: 202}},
		// The first one by its number, be it called by the other; one that is free alone is none at which a chain begins.
		{program(fun(0, calls(2)), fun(0, calls(3)), fun(0, calls(1), calls(3)), fun(56)), "---f", api.Reject{Why: api.ErrDeep, File: 99, Item: 202}},
		{program(fun(0, calls(2)), fun(0, calls(3)), fun(0, calls(3)), fun(56)), "---f", api.Reject{Why: api.ErrDeep, File: 98, Item: 204}},
		{program(fun(0, calls(2)), fun(56), fun(1, calls(1))), "-ff", api.Reject{Why: api.ErrDeep, File: 100, Item: 200}},
		// Nobody who is not called, and nobody who is taken alone.
		{program(fun(0), fun(0, calls(2)), fun(99)), "-ff", api.Reject{}},
		{program(fun(0), fun(0, calls(2)), fun(99)), "--f", api.Reject{}},
		{program(fun(0, takes(1)), fun(0, calls(2)), fun(99)), "--f", api.Reject{}},
		{program(fun(0, takes(1)), fun(99)), "-f", api.Reject{}},
		// Nobody who is not free, and has a great frame.
		{program(fun(999, calls(1), calls(0)), fun(math.MaxInt, calls(0))), "--", api.Reject{}},
		{program(fun(0, calls(1)), fun(math.MaxInt)), "-f", api.Reject{Why: api.ErrDeep, File: 100, Item: 200}},
		{program(fun(0, calls(1)), fun(math.MaxInt)), "-", api.Reject{}},
		{program(fun(0, calls(1)), fun(math.MinInt)), "-f", api.Reject{}},
	} {
		check(t, x.p, marks(x.free), x.reject)
		// Marks behind the last function turn nothing.
		if len(x.free) == len(x.p.Funs) {
			check(t, x.p, append(marks(x.free), true, true), x.reject)
		}
	}
}

// P27.2: a circle ahead of what is too deep, the start ahead of functions.
func TestErrorsOrder(t *testing.T) {
	p := program(fun(99, calls(1)), fun(0, calls(2)), fun(99), fun(3))
	check(t, p, marks("f-ff"), nowhere(api.ErrDeep))
	check(t, p, marks("--ff"), at(p, api.ErrDeep, 1))
	check(t, p, marks("f--f"), nowhere(api.ErrDeep))
	p.Funs[2] = fun(99, calls(3))
	p.Funs[3] = fun(3, calls(3))
	check(t, p, marks("f-ff"), at(p, api.ErrCycle, 3))
	check(t, p, marks("--ff"), at(p, api.ErrCycle, 3))
	check(t, p, marks("f-f-"), nowhere(api.ErrDeep))
	check(t, p, marks("--f-"), at(p, api.ErrDeep, 1))
	check(t, p, marks("---f"), at(p, api.ErrCycle, 3))
	check(t, p, marks("----"), api.Reject{})
	p = program(fun(99, calls(0)))
	check(t, p, marks("f"), at(p, api.ErrCycle, 0))
	check(t, p, marks("-"), api.Reject{})
}

// P27.2: an entry that is none of a function, ahead of all else.
func TestEntry(t *testing.T) {
	for _, n := range append(numbers(), 4, 5) {
		p := program(fun(99, calls(1)), fun(99, calls(1)))
		p.Entry = n
		want := nowhere(api.ErrArg)
		if n == 0 || n == 1 {
			want = at(p, api.ErrCycle, 1)
		}
		check(t, p, marks("ff"), want)
		check(t, api.Program{Entry: n}, nil, nowhere(api.ErrArg))
		check(t, api.Program{Entry: n, Funs: []api.Fun{}}, marks("f"), nowhere(api.ErrArg))
		check(t, api.Program{Entry: n, Dats: make([]api.Dat, 5)}, marks("f"), nowhere(api.ErrArg))
	}
	p := program(fun(0), fun(0, calls(2)), fun(56))
	p.Entry = 1
	check(t, p, marks("--f"), at(p, api.ErrDeep, 1))
	p.Entry = 2
	check(t, p, marks("--f"), nowhere(api.ErrDeep))
	p.Entry = 0
	check(t, p, marks("--f"), api.Reject{})
	// What a function says of its file, and its item, is told as it is.
	p.Entry = 1
	for _, n := range numbers() {
		p.Funs[1].File, p.Funs[1].Item = n, ^n
		check(t, p, marks("--f"), api.Reject{Why: api.ErrDeep, File: n, Item: ^n})
	}
}

// P27.3: where there is no such function, it is nothing; of one that is not free, or not called, itself.
func TestWayOfOne(t *testing.T) {
	p := program(fun(5, calls(1)), fun(6, calls(2)), fun(7), fun(8, calls(2)), fun(9, calls(3)))
	free := marks("ffff-")
	for _, n := range append(numbers(), 4, 5, 6) {
		want := map[int][]int{0: {0, 1, 2}, 1: {1, 2}, 2: {2}, 3: {3}, 4: {4}}[n]
		way(t, p, free, n, want...)
		way(t, api.Program{Entry: n}, free, n)
		way(t, api.Program{}, nil, n)
	}
	for n := range p.Funs {
		way(t, p, nil, n, n)
		way(t, p, make([]bool, 9), n, n)
	}
	way(t, p, marks("f"), 0, 0, 1)
	way(t, p, marks("f"), 1, 1)
	way(t, p, marks("f-f"), 0, 0, 1)
	way(t, p, marks("ff"), 0, 0, 1, 2)
	way(t, p, marks("ffffffff"), 0, 0, 1, 2)
	p.Entry = 4
	way(t, p, marks("fffff"), 4, 4, 3, 2)
	way(t, p, marks("fffff"), 0, 0)
	p.Entry = -1
	way(t, p, marks("fffff"), 4, 4)
	way(t, p, marks("fffff"), 5)
}

// P27.3: the end that needs most, of several the one with the least number.
func TestWayOfMost(t *testing.T) {
	p := program(fun(1, calls(3), calls(2), calls(1)), fun(4), fun(9), fun(9))
	way(t, p, marks("ffff"), 0, 0, 2)
	way(t, p, marks("ff-f"), 0, 0, 3)
	way(t, p, marks("ff--"), 0, 0, 1)
	way(t, p, marks("f---"), 0, 0, 1)
	way(t, p, marks("f-"), 0, 0, 1)
	// Two ways that need as much, the one with the lesser number at its end first, or behind; a frame of a word as much as a check.
	p = program(fun(1, calls(1), calls(2)), fun(5, calls(4)), fun(6, calls(3)), fun(3), fun(4))
	way(t, p, marks("fffff"), 0, 0, 1, 4)
	p.Funs[1].F.Pad = 4
	way(t, p, marks("fffff"), 0, 0, 2, 3)
	p = program(fun(1, calls(2), calls(1)), fun(1), fun(99))
	way(t, p, marks("ff-"), 0, 0, 1)
	p = program(fun(1, calls(2), calls(1)), fun(99), fun(0))
	way(t, p, marks("f-f"), 0, 0, 1)
	p.Funs[2].F.Pad = 2
	way(t, p, marks("f-f"), 0, 0, 2)
	// What lies behind counts, not the frame alone; by classes, too.
	p = program(fun(1, calls(1), takes(2), via(2)), fun(9), of(2, fun(3, calls(3))), fun(8))
	way(t, p, marks("ffff"), 0, 0, 2, 3)
	way(t, p, marks("fff-"), 0, 0, 1)
	way(t, p, marks("ffff"), 2, 2, 3)
	// Deeper than may be.
	p = program(fun(99, calls(1)), fun(math.MaxInt, calls(2)), fun(math.MaxInt))
	way(t, p, marks("fff"), 0, 0, 1, 2)
}
