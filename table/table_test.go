package table_test

import (
	"fmt"
	"math"
	"slices"
	"strings"
	"testing"

	"sheerleg/api"
	"sheerleg/asm"
	"sheerleg/bind"
	"sheerleg/prologue"
	"sheerleg/table"
)

// numbers are those that any call may be given.
func numbers() []int {
	return []int{math.MinInt, math.MinInt + 1, -1 << 32, -65536, -257, -2, -1, 0, 1, 2, 3, 4, 8, 9, 64, 65, 255, 256, 4096, 1<<20 - 1, 1 << 20, 1<<20 + 1, 1 << 31, 1 << 32, 1<<32 + 1, math.MaxInt - 1, math.MaxInt}
}

// bound is the program of a text, whose lines are parted by a /.
func bound(t *testing.T, text string) api.Program {
	t.Helper()
	s := strings.ReplaceAll(text, " / ", "\n") + "\n"
	o, at, e := asm.Parse(s)
	if e != api.OK {
		t.Fatalf("%v at line %d of\n%s", e, at, s)
	}
	p, r := bind.Bind([]api.Object{o}, "main")
	if r.Why != api.OK {
		t.Fatalf("%v of\n%s", r, s)
	}
	return p
}

// fun is a function with so many instructions.
func fun(instructions int) api.Fun {
	return api.Fun{F: api.Func{Code: make([]api.Instr, instructions)}}
}

// program is of these functions.
func program(l ...api.Fun) api.Program {
	return api.Program{Funs: l}
}

// keeps is the plan that keeps those whose letter is k, with these checks.
func keeps(s string, checks ...int) api.Plan {
	plan := api.Plan{Checks: checks}
	for _, letter := range s {
		plan.Kept = append(plan.Kept, letter == 'k')
	}
	return plan
}

// own is the row of an instruction, and alone of one without a line at which nothing is pending.
func own(fn, frame int, pending bool, line int) api.Row {
	return api.Row{Fn: fn, Frame: frame, Defer: pending, Line: line}
}

func alone(fn, frame int) api.Row { return own(fn, frame, false, 0) }

// ahead is the row of what stands ahead of a function's own code.
func ahead(fn int) api.Row { return api.Row{Fn: fn} }

// from is a run.
func from(at int, row api.Row) api.Run { return api.Run{From: at, Row: row} }

// rows holds Rows to what it answers, beside the rows of bottom and driver, and Make to the same by places.
func rows(t *testing.T, p api.Program, plan api.Plan, want ...api.Row) {
	t.Helper()
	want = append(make([]api.Row, 2), want...)
	if got := table.Rows(p, plan); !slices.Equal(got, want) {
		t.Errorf("Rows = %v; want %v; the plan is %v, %v", got, want, plan.Kept, plan.Checks)
	}
	got := table.Make(p, plan)
	for at, run := range got {
		if at > 0 && run.From <= got[at-1].From || run.From >= len(want) {
			t.Errorf("Make = %v; of %d places", got, len(want))
			return
		}
		if run.From > 0 && want[run.From] == want[run.From-1] {
			t.Errorf("Make = %v; alike at %d", got, run.From)
		}
	}
	for place, row := range want {
		begun := slices.IndexFunc(got, func(run api.Run) bool { return run.From > place })
		if begun < 0 {
			begun = len(got)
		}
		if begun == 0 || got[begun-1].Row != row {
			t.Errorf("Make = %v; want %v at %d; the plan is %v, %v", got, row, place, plan.Kept, plan.Checks)
			return
		}
	}
}

// made holds Make to what it answers.
func made(t *testing.T, p api.Program, plan api.Plan, want ...api.Run) {
	t.Helper()
	if got := table.Make(p, plan); !slices.Equal(got, want) {
		t.Errorf("Make = %v; want %v; the plan is %v, %v", got, want, plan.Kept, plan.Checks)
	}
}

// Example 1.
func TestExample(t *testing.T) {
	p := bound(t, "proc main f0 / return 0")
	rows(t, p, keeps("k"), ahead(1), alone(1, 0))
	made(t, p, keeps("k"), from(0, api.Row{}), from(2, ahead(1)))
	rows(t, p, prologue.Full(p), ahead(1), ahead(1), alone(1, 0))
	made(t, p, prologue.Full(p), from(0, api.Row{}), from(2, ahead(1)))
}

// play is a program whose functions have ranges and lines, both, or neither.
func play(t *testing.T) api.Program {
	t.Helper()
	return bound(t, "proc main f0r / pad 9 / range 2 4 / slots n / line 5 / zero 0 4 / defer 0 @late / line 7 / call 0 @f / return 0 / line 5 / return 0"+
		" / proc f f0 / slots n n / line 65535 / out 0 / return 0"+
		" / proc late f0 / pad 4095 / range 0 2 / slots n / out 0 / return 0"+
		" / proc bare f0 / return 0")
}

// P33.1, written out: with checks and without.
func TestPlay(t *testing.T) {
	p := play(t)
	rows(t, p, keeps("kkkk"),
		ahead(1), own(1, 10, false, 5), own(1, 10, false, 5), own(1, 10, true, 7), own(1, 10, true, 7), own(1, 10, false, 5),
		ahead(2), own(2, 2, false, 65535), own(2, 2, false, 65535),
		ahead(3), own(3, 4096, true, 0), own(3, 4096, true, 0),
		ahead(4), alone(4, 0))
	made(t, p, keeps("kkkk"),
		from(0, api.Row{}), from(2, ahead(1)), from(3, own(1, 10, false, 5)), from(5, own(1, 10, true, 7)), from(7, own(1, 10, false, 5)),
		from(8, ahead(2)), from(9, own(2, 2, false, 65535)),
		from(11, ahead(3)), from(12, own(3, 4096, true, 0)),
		from(14, ahead(4)))
	rows(t, p, keeps("kkkk", 1, 0, 3, 2),
		ahead(1), ahead(1), own(1, 10, false, 5), own(1, 10, false, 5), own(1, 10, true, 7), own(1, 10, true, 7), own(1, 10, false, 5),
		ahead(2), own(2, 2, false, 65535), own(2, 2, false, 65535),
		ahead(3), ahead(3), own(3, 4096, true, 0), own(3, 4096, true, 0),
		ahead(4), ahead(4), alone(4, 0))
	made(t, p, keeps("kkkk", 1, 0, 3, 2),
		from(0, api.Row{}), from(2, ahead(1)), from(4, own(1, 10, false, 5)), from(6, own(1, 10, true, 7)), from(8, own(1, 10, false, 5)),
		from(9, ahead(2)), from(10, own(2, 2, false, 65535)),
		from(12, ahead(3)), from(14, own(3, 4096, true, 0)),
		from(16, ahead(4)))
}

// P33.1: plans that keep some, or nobody; functions that are not kept, ahead of those that are.
func TestPlans(t *testing.T) {
	p := program(fun(2), fun(1), fun(3))
	for at := range p.Funs {
		p.Funs[at].F.Pad = 10 + at
	}
	a, b, c := 10, 11, 12
	rows(t, p, keeps("k--"), ahead(1), alone(1, a), alone(1, a))
	rows(t, p, keeps("-k-"), ahead(1), alone(1, b))
	rows(t, p, keeps("--k"), ahead(1), alone(1, c), alone(1, c), alone(1, c))
	rows(t, p, keeps("k-k", 1, 1, 0), ahead(1), ahead(1), alone(1, a), alone(1, a), ahead(2), alone(2, c), alone(2, c), alone(2, c))
	rows(t, p, keeps("-kk", 1, 0, 1), ahead(1), alone(1, b), ahead(2), ahead(2), alone(2, c), alone(2, c), alone(2, c))
	rows(t, p, keeps("kkk"), ahead(1), alone(1, a), alone(1, a), ahead(2), alone(2, b), ahead(3), alone(3, c), alone(3, c), alone(3, c))
	for _, plan := range []api.Plan{{}, keeps("---"), keeps("---", 1, 2, 3), keeps("", 1, 1, 1), keeps("---k", 1, 1, 1, 1)} {
		rows(t, p, plan)
		made(t, p, plan, from(0, api.Row{}))
	}
}

// P33.1: Kept and Checks that are shorter, and longer, than the list of functions; a check that is any number but 0.
func TestLengths(t *testing.T) {
	p := program(fun(1), fun(1))
	one, two := alone(1, 0), alone(2, 0)
	rows(t, p, keeps("k", 1, 1, 1), ahead(1), ahead(1), one)
	rows(t, p, keeps("-k", 1), ahead(1), one)
	rows(t, p, keeps("kk", 2), ahead(1), ahead(1), one, ahead(2), two)
	rows(t, p, keeps("kk"), ahead(1), one, ahead(2), two)
	rows(t, p, keeps("kkkkk", 0, 3, 1, 1, 1), ahead(1), one, ahead(2), ahead(2), two)
	for _, n := range numbers() {
		if n != 0 {
			rows(t, p, keeps("kk", 0, n), ahead(1), one, ahead(2), ahead(2), two)
		}
	}
	made(t, p, keeps("kk", 0, 1), from(0, api.Row{}), from(2, ahead(1)), from(4, ahead(2)))
}

// P33.1: of no functions, and of functions of no instruction, whose place is that of what makes their frame.
func TestNothing(t *testing.T) {
	for _, p := range []api.Program{{}, {Funs: []api.Fun{}}, {Entry: 7, Dats: make([]api.Dat, 3)}} {
		for _, plan := range []api.Plan{{}, keeps("kk", 1, 1), {Kept: []bool{}, Checks: []int{}}} {
			rows(t, p, plan)
			made(t, p, plan, from(0, api.Row{}))
		}
	}
	p := program(fun(0), fun(1), fun(0))
	for at := range p.Funs {
		f := &p.Funs[at].F
		f.Pad, f.From, f.To, f.Lines = 5, -9, 9, []api.Line{{At: -9, Line: 3}}
	}
	rows(t, p, keeps("kkk"), ahead(1), ahead(2), own(2, 5, true, 3), ahead(3))
	rows(t, p, keeps("kkk", 1, 1, 1), ahead(1), ahead(1), ahead(2), ahead(2), own(2, 5, true, 3), ahead(3), ahead(3))
	rows(t, p, keeps("k-k", 0, 0, 1), ahead(1), ahead(2), ahead(2))
	made(t, p, keeps("k-k", 0, 0, 1), from(0, api.Row{}), from(2, ahead(1)), from(3, ahead(2)))
}

// P33.1, Defer: each range of a function, in one with a check, and in one without.
func TestRanges(t *testing.T) {
	for _, from := range []int{math.MinInt, -1, 0, 1, 2, 3, 4, math.MaxInt} {
		for _, to := range []int{math.MinInt, -1, 0, 1, 2, 3, 4, math.MaxInt} {
			f := fun(3)
			f.F.From, f.F.To = from, to
			in := func(fn, i int) api.Row { return own(fn, 0, i >= from && i < to, 0) }
			rows(t, program(f, f), keeps("kk", 0, 1), ahead(1), in(1, 0), in(1, 1), in(1, 2), ahead(2), ahead(2), in(2, 0), in(2, 1), in(2, 2))
		}
	}
}

// P33.1, Line: lines that begin later, or nowhere, stand twice, or fall, and such as are no lines.
func TestLines(t *testing.T) {
	for _, x := range []struct {
		lines []api.Line
		want  [3]int
	}{
		{nil, [3]int{0, 0, 0}},
		{[]api.Line{{At: 0, Line: 4}}, [3]int{4, 4, 4}},
		{[]api.Line{{At: 1, Line: 4}}, [3]int{0, 4, 4}},
		{[]api.Line{{At: 2, Line: 4}}, [3]int{0, 0, 4}},
		{[]api.Line{{At: 3, Line: 4}}, [3]int{0, 0, 0}},
		{[]api.Line{{At: -1, Line: 4}}, [3]int{4, 4, 4}},
		{[]api.Line{{At: 0, Line: 4}, {At: 1, Line: 0}, {At: 2, Line: 4}}, [3]int{4, 0, 4}},
		{[]api.Line{{At: 0, Line: 4}, {At: 0, Line: 5}, {At: 2, Line: 6}}, [3]int{5, 5, 6}},
		{[]api.Line{{At: 1, Line: 4}, {At: 0, Line: 5}}, [3]int{0, 5, 5}},
		{[]api.Line{{At: math.MinInt, Line: math.MinInt}, {At: 1, Line: math.MaxInt}, {At: math.MaxInt, Line: 3}}, [3]int{math.MinInt, math.MaxInt, math.MaxInt}},
	} {
		f := fun(3)
		f.F.Lines = x.lines
		of := func(fn, i int) api.Row { return own(fn, 0, false, x.want[i]) }
		rows(t, program(f, f), keeps("kk", 1), ahead(1), ahead(1), of(1, 0), of(1, 1), of(1, 2), ahead(2), of(2, 0), of(2, 1), of(2, 2))
	}
}

// P33.1, Frame: slots, and Pad, which counts as from 0 to 2^20.
func TestFrames(t *testing.T) {
	for slots := range 20 {
		for _, n := range numbers() {
			f := fun(2)
			f.F.Pad, f.F.Kinds = n, make([]int, slots)
			want := alone(1, slots+max(0, min(n, 1<<20)))
			rows(t, program(f), keeps("k"), ahead(1), want, want)
			rows(t, program(f), keeps("k", 1), ahead(1), ahead(1), want, want)
		}
	}
}

// P33.1: what else is said of a program, whether it may be or not, turns nothing.
func TestTurnsNothing(t *testing.T) {
	for _, n := range numbers() {
		p := program(fun(1), fun(1))
		p.Entry = n
		for at := range p.Funs {
			f := &p.Funs[at]
			f.File, f.Item, f.Name, f.Refs = n, n, "f", []int{n, n, n}
			f.F.Class, f.F.Nosplit, f.F.Relocs = n, at == 1, []api.Reloc{{At: n, Sym: n, Wide: true}}
			f.F.Code[0] = api.Instr{Op: n, A: n, B: n, C: n, N: int64(n)}
		}
		p.Dats = []api.Dat{{File: n, Item: n, D: api.Data{Kind: n, Words: []int64{int64(n)}}, Refs: []int{n}}}
		rows(t, p, keeps("kk", 1), ahead(1), ahead(1), alone(1, 0), ahead(2), alone(2, 0))
	}
}

// P33.1: many functions, and a function of many instructions.
func TestGreat(t *testing.T) {
	const many = 1 << 16
	p := api.Program{Funs: make([]api.Fun, many)}
	p.Funs[many-1] = fun(many)
	p.Funs[many-1].F.Lines = []api.Line{{At: 0, Line: 8}, {At: many - 1, Line: 9}}
	plan := api.Plan{Kept: slices.Repeat([]bool{true}, many), Checks: []int{1}}
	l := table.Rows(p, plan)
	if len(l) != 3+2*many || l[3+many-1] != ahead(many) || l[3+many] != own(many, 0, false, 8) || l[3+2*many-1] != own(many, 0, false, 9) {
		t.Errorf("%d rows", len(l))
	}
	if runs := table.Make(p, plan); len(runs) != 1+many+2 || runs[many+2] != from(3+2*many-1, own(many, 0, false, 9)) {
		t.Errorf("%d runs", len(runs))
	}
}

// fill writes over all of l, up to its capacity.
func fill[T any](l []T, x T) {
	l = l[:cap(l)]
	for i := range l {
		l[i] = x
	}
}

// The rules: what is answered shares no memory with what is handed in, or with a later answer; nothing that is handed in is changed, or kept.
func TestShares(t *testing.T) {
	p := play(t)
	plan := keeps("kk-k", 1, 0, 2, 3)
	fns := []api.Fn{{Start: 2, Body: 3, End: 9, Frame: 7}}
	was := fmt.Sprint(p, plan, fns)
	all := func() string { return fmt.Sprint(table.Rows(p, plan), table.Make(p, plan)) }
	want := all()
	fill(append(table.Rows(p, plan), api.Row{Fn: 77}), api.Row{Fn: 78})
	fill(table.Rows(p, plan), api.Row{Fn: 79})
	fill(append(table.Make(p, plan), api.Run{From: 77}), api.Run{From: 78})
	fill(table.Make(p, plan), api.Run{From: 79})
	table.Source(fns, 3)
	if now := all(); now != want {
		t.Errorf("%s came to be %s", want, now)
	}
	if now := fmt.Sprint(p, plan, fns); now != was {
		t.Errorf("%s came to be %s", was, now)
	}
	first, second := table.Rows(p, plan), table.Make(p, plan)
	for at := range p.Funs {
		fill(p.Funs[at].F.Lines, api.Line{Line: 77})
		fill(p.Funs[at].F.Code, api.Instr{Op: 77})
	}
	fill(p.Funs, api.Fun{})
	fill(plan.Kept, false)
	fill(plan.Checks, 77)
	if now := fmt.Sprint(first, second); now != want {
		t.Errorf("%s came to be %s", want, now)
	}
}
