package patch_test

import (
	"fmt"
	"math"
	"slices"
	"strings"
	"testing"

	"sheerleg/api"
	"sheerleg/asm"
	"sheerleg/bind"
	"sheerleg/patch"
	"sheerleg/prologue"
)

// numbers are those that any call may be given.
func numbers() []int {
	return []int{math.MinInt, math.MinInt + 1, -1 << 32, -65536, -257, -3, -2, -1, 0, 1, 2, 3, 4, 7, 8, 9, 64, 65, 255, 256, 4096, 1<<20 - 1, 1 << 20, 1<<20 + 1, 1 << 31, 1 << 32, 1<<32 + 1, math.MaxInt - 1, math.MaxInt}
}

// bound is the program of a text, whose lines are told one by one, or several with a / between.
func bound(t *testing.T, lines ...string) api.Program {
	t.Helper()
	s := strings.ReplaceAll(strings.Join(lines, "\n"), " / ", "\n")
	o, at, e := asm.Parse(s)
	if e != api.OK {
		t.Fatalf("%v at line %d of\n%s", e, at, s)
	}
	p, r := bind.Bind([]api.Object{o}, "main")
	if r.Why != api.OK {
		t.Fatalf("%v of\n%s", r, s)
	}
	return p
}

// does is an instruction, and the number to which it refers.
type does struct {
	x  api.Instr
	to int
}

// fun is a function of a class with such instructions.
func fun(class int, l ...does) api.Fun {
	f := api.Fun{F: api.Func{Class: class}}
	for _, d := range l {
		f.F.Code = append(f.F.Code, d.x)
		f.Refs = append(f.Refs, d.to)
	}
	return f
}

// alone is an instruction that refers to nothing.
func alone(x api.Instr) does { return does{x, -1} }

// ends is the instruction with which functions end.
func ends() does { return alone(api.Instr{Op: api.OpReturn}) }

// dat is data of these words, with these numbers.
func dat(words []int64, refs ...int) api.Dat {
	return api.Dat{D: api.Data{Words: words}, Refs: refs}
}

// keeps is the plan that keeps all of so many functions, none of which has a check, but those of whom one is told.
func keeps(many int, checks ...int) api.Plan {
	return api.Plan{Kept: slices.Repeat([]bool{true}, many), Checks: checks}
}

// what tells an instruction by its operation's number and its operands.
func what(x api.Instr) string {
	return fmt.Sprintf("%d %d %d %d %d", x.Op, x.A, x.B, x.C, x.N)
}

// differ tells how two codes differ, at the first place where they do.
func differ(got, want []api.Instr) string {
	for i := range min(len(got), len(want)) {
		if got[i] != want[i] {
			return fmt.Sprintf("%s at %d; want %s", what(got[i]), i, what(want[i]))
		}
	}
	return fmt.Sprintf("%d instructions; want %d", len(got), len(want))
}

// code holds Code to what it answers, beside bottom and driver.
func code(t *testing.T, p api.Program, plan api.Plan, want ...api.Instr) {
	t.Helper()
	want = append([]api.Instr{{Op: api.OpBottom}, {Op: api.OpDriver}}, want...)
	if got := patch.Code(p, plan); !slices.Equal(got, want) {
		t.Errorf("%s; the plan is %v, %v", differ(got, want), plan.Kept, plan.Checks)
	}
}

// words holds Words to what it answers.
func words(t *testing.T, p api.Program, plan api.Plan, want ...int64) {
	t.Helper()
	if got := patch.Words(p, plan); !slices.Equal(got, want) {
		t.Errorf("Words = %v; want %v; the plan is %v, %v", got, want, plan.Kept, plan.Checks)
	}
}

// Example 1.
func TestExample(t *testing.T) {
	p := bound(t, "proc main f0 / return 0")
	code(t, p, keeps(1), api.Instr{Op: api.OpEnter}, api.Instr{Op: api.OpReturn})
	code(t, p, prologue.Full(p), api.Instr{Op: api.OpCheck, A: 3}, api.Instr{Op: api.OpEnter}, api.Instr{Op: api.OpReturn})
	words(t, p, keeps(1))
}

// play is a program with all that is patched: main 0, f 1, late 2, g 3; the data nums 0, table 1.
func play(t *testing.T) api.Program {
	t.Helper()
	return bound(t,
		"data nums n / word 5 / word -6 / word 7",
		"proc main f0r / pad 9 / range 0 9 / slots n n f1r / zero 0 3 / load 1 0 @nums / store 1 0 @nums / call 0 @f / defer 0 @late / func 2 @f / pick 2 1 @table / jump 0 / return 0",
		"proc f f1r / slots n n / zero 1 0 / set 1 9 / return 1",
		"proc late f1 / slots n / return 0",
		"data table f1r / word nil / word @g / word @f",
		"proc g f1r / slots n / in 0 / return 0")
}

// P32.1, written out: with all checks, without any, and with a function left out.
func TestPlay(t *testing.T) {
	p := play(t)
	code(t, p, keeps(4),
		api.Instr{Op: api.OpEnter, A: 3, N: 12}, // at 2
		api.Instr{Op: api.OpZero, N: 6},
		api.Instr{Op: api.OpLoad, A: 1},
		api.Instr{Op: api.OpStore, A: 1},
		api.Instr{Op: api.OpCall, C: 3, N: 12},
		api.Instr{Op: api.OpDefer, C: 2, N: 16},
		api.Instr{Op: api.OpFunc, A: 2, N: 12},
		api.Instr{Op: api.OpPick, A: 2, B: 1, N: 4},
		api.Instr{Op: api.OpJump, N: 3},
		api.Instr{Op: api.OpReturn, B: 1},
		api.Instr{Op: api.OpEnter, A: 2, B: 1, N: 2}, // at 12
		api.Instr{Op: api.OpZero, A: 1, N: 13},
		api.Instr{Op: api.OpSet, A: 1, N: 9},
		api.Instr{Op: api.OpReturn, A: 1, B: 1},
		api.Instr{Op: api.OpEnter, A: 1, B: 1, N: 1}, // at 16
		api.Instr{Op: api.OpReturn},
		api.Instr{Op: api.OpEnter, A: 1, B: 1, N: 1}, // at 18
		api.Instr{Op: api.OpIn},
		api.Instr{Op: api.OpReturn, B: 1})
	words(t, p, keeps(4), 3, 5, -6, 7, 3, 0, 18, 12)
	code(t, p, keeps(4, 2, 1, 0, 3),
		api.Instr{Op: api.OpCheck, A: 2, N: 12}, // at 2
		api.Instr{Op: api.OpEnter, A: 3, N: 12},
		api.Instr{Op: api.OpZero, N: 7},
		api.Instr{Op: api.OpLoad, A: 1},
		api.Instr{Op: api.OpStore, A: 1},
		api.Instr{Op: api.OpCall, C: 3, N: 13},
		api.Instr{Op: api.OpDefer, C: 2, N: 18},
		api.Instr{Op: api.OpFunc, A: 2, N: 13},
		api.Instr{Op: api.OpPick, A: 2, B: 1, N: 4},
		api.Instr{Op: api.OpJump, N: 4},
		api.Instr{Op: api.OpReturn, B: 1},
		api.Instr{Op: api.OpCheck, A: 1, N: 2}, // at 13
		api.Instr{Op: api.OpEnter, A: 2, B: 1, N: 2},
		api.Instr{Op: api.OpZero, A: 1, N: 15},
		api.Instr{Op: api.OpSet, A: 1, N: 9},
		api.Instr{Op: api.OpReturn, A: 1, B: 1},
		api.Instr{Op: api.OpEnter, A: 1, B: 1, N: 1}, // at 18
		api.Instr{Op: api.OpReturn},
		api.Instr{Op: api.OpCheck, A: 3, N: 1}, // at 20
		api.Instr{Op: api.OpEnter, A: 1, B: 1, N: 1},
		api.Instr{Op: api.OpIn},
		api.Instr{Op: api.OpReturn, B: 1})
	words(t, p, keeps(4, 2, 1, 0, 3), 3, 5, -6, 7, 3, 0, 20, 13)
	// Without f and late, to which the others refer yet.
	plan := api.Plan{Kept: []bool{true, false, false, true}, Checks: []int{1, 1, 1, 0}}
	code(t, p, plan,
		api.Instr{Op: api.OpCheck, A: 1, N: 12}, // at 2
		api.Instr{Op: api.OpEnter, A: 3, N: 12},
		api.Instr{Op: api.OpZero, N: 7},
		api.Instr{Op: api.OpLoad, A: 1},
		api.Instr{Op: api.OpStore, A: 1},
		api.Instr{Op: api.OpCall, C: 3, N: -1},
		api.Instr{Op: api.OpDefer, C: 2, N: -1},
		api.Instr{Op: api.OpFunc, A: 2, N: -1},
		api.Instr{Op: api.OpPick, A: 2, B: 1, N: 4},
		api.Instr{Op: api.OpJump, N: 4},
		api.Instr{Op: api.OpReturn, B: 1},
		api.Instr{Op: api.OpEnter, A: 1, B: 1, N: 1}, // at 13
		api.Instr{Op: api.OpIn},
		api.Instr{Op: api.OpReturn, B: 1})
	words(t, p, plan, 3, 5, -6, 7, 3, 0, 13, 0)
}

// P32.1: a plan that keeps nobody; data stand there yet.
func TestNobodyKept(t *testing.T) {
	p := play(t)
	for _, plan := range []api.Plan{{}, {Kept: []bool{}, Checks: []int{1, 2, 3, 1}}, {Kept: make([]bool, 4), Checks: []int{3, 3, 3, 3}}, {Kept: make([]bool, 9)}, {Kept: []bool{false, false, false, false, true}, Checks: []int{0, 0, 0, 0, 1}}} {
		code(t, p, plan)
		words(t, p, plan, 3, 5, -6, 7, 3, 0, 0, 0)
	}
}

// P32.1: Kept, and Checks, that are shorter, and longer, than the list of functions.
func TestLengths(t *testing.T) {
	p := api.Program{Funs: []api.Fun{fun(0, ends()), fun(0, ends()), fun(0, ends())}, Dats: []api.Dat{dat(make([]int64, 4), 2, 1, 0, 3)}}
	enter, back := api.Instr{Op: api.OpEnter}, api.Instr{Op: api.OpReturn}
	for class := 1; class < 4; class++ {
		check := api.Instr{Op: api.OpCheck, A: class}
		code(t, p, api.Plan{Kept: []bool{true}, Checks: []int{class}}, check, enter, back)
		code(t, p, api.Plan{Kept: []bool{true}, Checks: []int{class, class, class, class}}, check, enter, back)
		code(t, p, api.Plan{Kept: []bool{false, true}, Checks: []int{class}}, enter, back)
		code(t, p, keeps(3, class), check, enter, back, enter, back, enter, back)
		code(t, p, keeps(5, 0, class), enter, back, check, enter, back, enter, back)
		code(t, p, keeps(5, 0, 0, class, class, class), enter, back, enter, back, check, enter, back)
		words(t, p, keeps(3, class), 4, 7, 5, 2, 0)
		words(t, p, keeps(7, 0, class, 1, 1, 1), 4, 7, 4, 2, 0)
		words(t, p, api.Plan{Kept: []bool{false, true}, Checks: []int{class}}, 4, 0, 2, 0, 0)
	}
	code(t, p, keeps(3), enter, back, enter, back, enter, back)
	words(t, p, keeps(3), 4, 6, 4, 2, 0)
}

// P32.1: a check has the class that the plan tells, whatever number it is, and whatever is said of the function; and its frame.
func TestHeads(t *testing.T) {
	for _, n := range numbers() {
		for slots := range 5 {
			for class := range 8 {
				f := fun(class)
				f.F.Pad, f.F.Kinds, f.F.Nosplit = n, make([]int, slots), slots%2 == 0
				frame := int64(slots + max(0, min(n, 1<<20)))
				enter := api.Instr{Op: api.OpEnter, A: slots, B: class / 2, N: frame}
				p := api.Program{Funs: []api.Fun{f}}
				code(t, p, keeps(1), enter)
				code(t, p, keeps(1, 0), enter)
				for check := 1; check < 4; check++ {
					code(t, p, keeps(1, check), api.Instr{Op: api.OpCheck, A: check, N: frame}, enter)
				}
				if n != 0 {
					code(t, p, keeps(1, n), api.Instr{Op: api.OpCheck, A: n, N: frame}, enter)
				}
			}
		}
	}
}

// P32.1: of a class that is none, there are no parameters, and nothing is answered; C is what it is.
func TestNoClass(t *testing.T) {
	for _, n := range append(numbers(), 5, 6) {
		f := fun(n, ends(), does{api.Instr{Op: api.OpCall, A: 3, C: 77, N: 5}, 0}, does{api.Instr{Op: api.OpDefer, A: 4, C: 78, N: 6}, 0})
		back := api.Instr{Op: api.OpReturn}
		params := 0
		if 0 <= n && n < 8 {
			params, back.B = n/2, n%2
		}
		code(t, api.Program{Funs: []api.Fun{f}}, keeps(1), api.Instr{Op: api.OpEnter, B: params}, back, api.Instr{Op: api.OpCall, A: 3, C: n, N: 2}, api.Instr{Op: api.OpDefer, A: 4, C: n, N: 2})
	}
}

// P32.1: return of each class: of those that answer B is 1.
func TestReturn(t *testing.T) {
	for class := range 8 {
		f := fun(class, alone(api.Instr{Op: api.OpReturn, A: 5}), ends())
		p := api.Program{Funs: []api.Fun{fun(1-class%2, ends()), f}}
		other, own := api.Instr{Op: api.OpReturn, B: 1 - class%2}, api.Instr{Op: api.OpReturn, B: class % 2}
		first := own
		first.A = 5
		code(t, p, keeps(2), api.Instr{Op: api.OpEnter}, other, api.Instr{Op: api.OpEnter, B: class / 2}, first, own)
	}
}

// P32.1: jump and zero go as far as they did, behind a check and without, of the first function, and of later ones.
func TestPlaces(t *testing.T) {
	f := fun(0, alone(api.Instr{Op: api.OpJump, N: 2}), alone(api.Instr{Op: api.OpZero, A: 3, N: 0}), ends())
	p := api.Program{Funs: []api.Fun{f, f}}
	enter, back := api.Instr{Op: api.OpEnter}, api.Instr{Op: api.OpReturn}
	jump := func(n int64) api.Instr { return api.Instr{Op: api.OpJump, N: n} }
	zero := func(n int64) api.Instr { return api.Instr{Op: api.OpZero, A: 3, N: n} }
	check := api.Instr{Op: api.OpCheck, A: 1}
	code(t, p, keeps(2), enter, jump(5), zero(3), back, enter, jump(9), zero(7), back)
	code(t, p, keeps(2, 1), check, enter, jump(6), zero(4), back, enter, jump(10), zero(8), back)
	code(t, p, keeps(2, 0, 1), enter, jump(5), zero(3), back, check, enter, jump(10), zero(8), back)
	code(t, p, keeps(2, 1, 1), check, enter, jump(6), zero(4), back, check, enter, jump(11), zero(9), back)
	code(t, p, api.Plan{Kept: []bool{false, true}, Checks: []int{1, 1}}, check, enter, jump(6), zero(4), back)
	// Of no other instruction, whatever its number is.
	for operation := range 40 {
		x := api.Instr{Op: operation, A: 1, B: 2, C: 3, N: 4}
		want := x
		if operation == 11 || operation == 12 {
			want.N = 7
		}
		code(t, api.Program{Funs: []api.Fun{fun(0, alone(x))}}, keeps(1), enter, want)
	}
	// What refers to nothing does so, too, where its number is that of a function, and of data.
	for _, n := range []int{0, 1, -1, 9} {
		p := api.Program{Funs: []api.Fun{fun(1, does{jump(8), n}, does{api.Instr{Op: api.OpSet, N: 7}, n}, does{api.Instr{Op: api.OpVia, C: 3, N: 8}, n}, does{api.Instr{Op: 99, C: 3, N: 9}, n})}, Dats: []api.Dat{{}}}
		code(t, p, keeps(1), enter, jump(11), api.Instr{Op: api.OpSet, N: 7}, api.Instr{Op: api.OpVia, C: 3, N: 8}, api.Instr{Op: 99, C: 3, N: 9})
	}
}

// P32.1: of what refers to functions and data, each instruction, where its number is that of one, and where it is missing, or of none.
func TestRefs(t *testing.T) {
	for _, operation := range []int{api.OpCall, api.OpFunc, api.OpDefer, api.OpLoad, api.OpStore, api.OpPick} {
		x := api.Instr{Op: operation, A: 7, B: 8, C: 9, N: 99}
		for _, n := range append(numbers(), 5) {
			p := api.Program{Funs: []api.Fun{fun(0, does{x, n}), fun(3, ends()), fun(6, ends())}, Dats: []api.Dat{dat(make([]int64, 3)), dat(nil), dat(nil), dat(make([]int64, 5))}}
			want := x
			switch operation {
			case api.OpCall, api.OpFunc, api.OpDefer:
				if 0 <= n && n < 3 {
					want.N = []int64{2, 4, 6}[n]
				}
				if operation != api.OpFunc && 0 <= n && n < 3 {
					want.C = []int{0, 3, 6}[n]
				}
			default:
				if 0 <= n && n < 4 {
					want.N = []int64{0, 4, 5, 6}[n]
				}
			}
			enter, rest := api.Instr{Op: api.OpEnter}, []api.Instr{{Op: api.OpEnter, B: 1}, {Op: api.OpReturn, B: 1}, {Op: api.OpEnter, B: 3}, {Op: api.OpReturn}}
			code(t, p, keeps(3), append([]api.Instr{enter, want}, rest...)...)
			// Refs that are too short, and that have one number more.
			p.Funs[0].Refs = nil
			code(t, p, keeps(3), append([]api.Instr{enter, x}, rest...)...)
			p.Funs[0].Refs = []int{n, 0, 1}
			code(t, p, keeps(3), append([]api.Instr{enter, want}, rest...)...)
			p.Funs[0].F.Code = []api.Instr{{Op: api.OpNop}, x}
			p.Funs[0].Refs = []int{n}
			rest[1].N = 0
			code(t, p, keeps(1), enter, api.Instr{Op: api.OpNop}, x)
		}
	}
}

// P32.1: of a function that is not kept N is -1; C is its class yet.
func TestNotKept(t *testing.T) {
	p := api.Program{Funs: []api.Fun{fun(0, does{api.Instr{Op: api.OpCall, A: 1}, 1}, does{api.Instr{Op: api.OpFunc, A: 2}, 1}, does{api.Instr{Op: api.OpDefer, A: 3, C: 4, N: 5}, 1}, ends()), fun(2, ends())}}
	enter, back := api.Instr{Op: api.OpEnter}, api.Instr{Op: api.OpReturn}
	code(t, p, keeps(1), enter, api.Instr{Op: api.OpCall, A: 1, C: 2, N: -1}, api.Instr{Op: api.OpFunc, A: 2, N: -1}, api.Instr{Op: api.OpDefer, A: 3, C: 2, N: -1}, back)
	code(t, p, keeps(2), enter, api.Instr{Op: api.OpCall, A: 1, C: 2, N: 7}, api.Instr{Op: api.OpFunc, A: 2, N: 7}, api.Instr{Op: api.OpDefer, A: 3, C: 2, N: 7}, back, api.Instr{Op: api.OpEnter, B: 1}, back)
}

// P32.1, Words: data of no words, and of some; words as they were, at the least and the greatest numbers; words whose number is missing, or of none.
func TestWords(t *testing.T) {
	p := api.Program{Funs: []api.Fun{fun(0, ends()), fun(0), fun(0, ends())}}
	plan := api.Plan{Kept: []bool{true, true, false}}
	words(t, p, plan)
	words(t, api.Program{Dats: []api.Dat{}}, plan)
	words(t, api.Program{Dats: make([]api.Dat, 3)}, plan, 0, 0, 0)
	p.Dats = []api.Dat{dat(nil), dat([]int64{math.MinInt64, -1, 0, 1, math.MaxInt64}, -1, -1, -1, -1, -1), dat([]int64{}, 1, 2), dat([]int64{5}, -1)}
	words(t, p, plan, 0, 5, math.MinInt64, -1, 0, 1, math.MaxInt64, 0, 1, 5)
	for _, n := range numbers() {
		want := int64(0)
		switch n {
		case -1:
			want = 77
		case 0:
			want = 2
		case 1:
			want = 4
		}
		for _, kind := range []int{0, 1, 9, n} { // what the data are turns nothing
			p.Dats = []api.Dat{dat([]int64{77, 78, 77}, n, -1), dat([]int64{9, 9, 9, 77}, -1, 0, -1, n)}
			p.Dats[0].D.Kind = kind
			words(t, p, plan, 3, want, 78, 0, 4, 9, 2, 9, want)
		}
	}
}

// P32.1: what else is said of a program turns nothing.
func TestTurnsNothing(t *testing.T) {
	for _, n := range numbers() {
		p := api.Program{Funs: []api.Fun{fun(0, does{api.Instr{Op: api.OpCall}, 1}, ends()), fun(2, ends())}, Dats: []api.Dat{dat([]int64{3, 0}, -1, 1)}}
		p.Entry = n
		for at := range p.Funs {
			f := &p.Funs[at]
			f.File, f.Item, f.Name, f.F.From, f.F.To = n, n, "f", n, n
			f.F.Lines, f.F.Relocs = []api.Line{{At: n, Line: n}}, []api.Reloc{{At: n, Sym: n}, {At: 0, Sym: n, Wide: true}}
		}
		p.Dats[0].File, p.Dats[0].Item, p.Dats[0].D.Relocs = n, n, []api.Reloc{{At: 0, Sym: n}}
		code(t, p, keeps(2), api.Instr{Op: api.OpEnter}, api.Instr{Op: api.OpCall, C: 2, N: 5}, api.Instr{Op: api.OpReturn}, api.Instr{Op: api.OpEnter, B: 1}, api.Instr{Op: api.OpReturn})
		words(t, p, keeps(2), 2, 3, 5)
	}
}

// P32.1: of no functions, and of functions without code.
func TestNothing(t *testing.T) {
	for _, p := range []api.Program{{}, {Funs: []api.Fun{}, Dats: []api.Dat{}}, {Entry: 5}} {
		for _, plan := range []api.Plan{{}, keeps(2, 1, 1), {Kept: []bool{}, Checks: []int{}}} {
			code(t, p, plan)
			words(t, p, plan)
		}
	}
	p := api.Program{Funs: make([]api.Fun, 3)}
	enter, check := api.Instr{Op: api.OpEnter}, api.Instr{Op: api.OpCheck, A: 2}
	code(t, p, keeps(3), enter, enter, enter)
	code(t, p, keeps(3, 0, 2), enter, check, enter, enter)
	code(t, p, keeps(3, 2, 2, 2), check, enter, check, enter, check, enter)
}

// fill writes over all of l, up to its capacity.
func fill[T any](l []T, x T) {
	l = l[:cap(l)]
	for i := range l {
		l[i] = x
	}
}

// The rules: what is answered shares no memory with what is handed in, or with a later answer; nothing that is handed in is changed, or kept.
func TestShares(t *testing.T) {
	p := play(t)
	plan := keeps(4, 1, 0, 2, 3)
	was, want := fmt.Sprint(p, plan), fmt.Sprint(patch.Code(p, plan), patch.Words(p, plan))
	fill(append(patch.Code(p, plan), api.Instr{Op: 77}), api.Instr{Op: 78})
	fill(patch.Code(p, plan), api.Instr{Op: 79})
	fill(append(patch.Words(p, plan), 77), 78)
	fill(patch.Words(p, plan), 79)
	if now := fmt.Sprint(patch.Code(p, plan), patch.Words(p, plan)); now != want {
		t.Errorf("%s came to be %s", want, now)
	}
	if now := fmt.Sprint(p, plan); now != was {
		t.Errorf("%s came to be %s", was, now)
	}
	first, second := patch.Code(p, plan), patch.Words(p, plan)
	for at := range p.Funs {
		fill(p.Funs[at].F.Code, api.Instr{Op: 77})
		fill(p.Funs[at].Refs, 0)
	}
	for at := range p.Dats {
		fill(p.Dats[at].D.Words, 77)
		fill(p.Dats[at].Refs, 0)
	}
	fill(plan.Kept, false)
	fill(plan.Checks, 77)
	if now := fmt.Sprint(first, second); now != want {
		t.Errorf("%s came to be %s", want, now)
	}
}
