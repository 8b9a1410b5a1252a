package image_test

import (
	"fmt"
	"math"
	"reflect"
	"slices"
	"strings"
	"testing"

	"sheerleg/api"
	"sheerleg/asm"
	"sheerleg/bind"
	"sheerleg/image"
	"sheerleg/prologue"
)

// numbers are those that any call may be given.
func numbers() []int {
	return []int{math.MinInt, math.MinInt + 1, -1 << 32, -65536, -257, -2, -1, 0, 1, 2, 3, 4, 7, 8, 9, 64, 65, 255, 256, 4096, 1<<20 - 1, 1 << 20, 1<<20 + 1, 1 << 31, 1 << 32, 1<<32 + 1, math.MaxInt - 1, math.MaxInt}
}

// bound is the program of a text, whose lines are parted by a /.
func bound(t *testing.T, text string) api.Program {
	t.Helper()
	s := strings.ReplaceAll(text, " / ", "\n") + "\n"
	o, at, e := asm.Parse(s)
	if e != api.OK {
		t.Fatalf("%v at line %d of\n%s", e, at, s)
	}
	p, r := bind.Bind([]api.Object{o}, "main")
	if r.Why != api.OK {
		t.Fatalf("%v of\n%s", r, s)
	}
	return p
}

// keeps is the plan that keeps those whose letter is k, with these checks.
func keeps(s string, checks ...int) api.Plan {
	plan := api.Plan{Checks: checks}
	for _, letter := range s {
		plan.Kept = append(plan.Kept, letter == 'k')
	}
	return plan
}

// from is a run.
func from(at, fn, frame int, pending bool, line int) api.Run {
	return api.Run{From: at, Row: api.Row{Fn: fn, Frame: frame, Defer: pending, Line: line}}
}

// same tells whether two images are, a nil list being an empty one.
func same(a, b api.Image) bool {
	return slices.Equal(a.Code, b.Code) && slices.Equal(a.Words, b.Words) && slices.Equal(a.Fns, b.Fns) && slices.Equal(a.Runs, b.Runs) && a.Entry == b.Entry
}

// made holds Make to what it answers.
func made(t *testing.T, p api.Program, plan api.Plan, want api.Image) {
	t.Helper()
	if got := image.Make(p, plan); !same(got, want) {
		t.Errorf("Make = %+v; want %+v; the plan is %v, %v", got, want, plan.Kept, plan.Checks)
	}
}

// checked holds Check to what it answers.
func checked(t *testing.T, m api.Image, want api.Errno) {
	t.Helper()
	if e := image.Check(m); e != want {
		if len(m.Code)+len(m.Words)+len(m.Runs) > 999 {
			t.Errorf("Check = %v; want %v; of %d instructions, %d words, %d runs", e, want, len(m.Code), len(m.Words), len(m.Runs))
			return
		}
		t.Errorf("Check(%+v) = %v; want %v", m, e, want)
	}
}

// Example 1.
func TestExample(t *testing.T) {
	checked(t, api.Image{}, api.ErrForm)
}

// play is a program whose entry is its last function.
func play(t *testing.T) api.Program {
	t.Helper()
	return bound(t, "proc f f1r / slots n n / line 9 / set 1 4 / return 1"+
		" / data n n / word 7 / word 8"+
		" / proc late f0 / pad 4095 / slots n / out 0 / return 0"+
		" / data t f1r / word nil / word @f"+
		" / proc main f0 / range 2 4 / slots n / line 5 / zero 0 4 / defer 0 @late / line 7 / call 0 @f / return 0 / load 0 0 @n / return 0")
}

// P34.1, written out: all functions with the greatest checks.
func TestMakeFull(t *testing.T) {
	p := play(t)
	made(t, p, prologue.Full(p), api.Image{
		Code: []api.Instr{
			{Op: api.OpBottom}, {Op: api.OpDriver},
			{Op: api.OpCheck, A: 3, N: 2}, {Op: api.OpEnter, A: 2, B: 1, N: 2}, {Op: api.OpSet, A: 1, N: 4}, {Op: api.OpReturn, A: 1, B: 1},
			{Op: api.OpCheck, A: 3, N: 4096}, {Op: api.OpEnter, A: 1, N: 4096}, {Op: api.OpOut}, {Op: api.OpReturn},
			{Op: api.OpCheck, A: 3, N: 1}, {Op: api.OpEnter, A: 1, N: 1}, {Op: api.OpZero, N: 16}, {Op: api.OpDefer, N: 6}, {Op: api.OpCall, C: 3, N: 2}, {Op: api.OpReturn}, {Op: api.OpLoad}, {Op: api.OpReturn},
		},
		Words: []int64{2, 7, 8, 2, 0, 2},
		Fns:   []api.Fn{{Start: 2, Body: 4, End: 6, Frame: 2}, {Item: 1, Start: 6, Body: 8, End: 10, Frame: 4096}, {Item: 2, Start: 10, Body: 12, End: 18, Frame: 1}},
		Runs: []api.Run{
			from(0, 0, 0, false, 0),
			from(2, 1, 0, false, 0), from(4, 1, 2, false, 9),
			from(6, 2, 0, false, 0), from(8, 2, 4096, false, 0),
			from(10, 3, 0, false, 0), from(12, 3, 1, false, 5), from(14, 3, 1, true, 7), from(16, 3, 1, false, 7),
		},
		Entry: 10,
	})
}

// P34.1, written out: without one function, ahead of those that are kept, and with a check that some have.
func TestMakeLean(t *testing.T) {
	p := play(t)
	made(t, p, keeps("-kk", 1, 2), api.Image{
		Code: []api.Instr{
			{Op: api.OpBottom}, {Op: api.OpDriver},
			{Op: api.OpCheck, A: 2, N: 4096}, {Op: api.OpEnter, A: 1, N: 4096}, {Op: api.OpOut}, {Op: api.OpReturn},
			{Op: api.OpEnter, A: 1, N: 1}, {Op: api.OpZero, N: 11}, {Op: api.OpDefer, N: 2}, {Op: api.OpCall, C: 3, N: -1}, {Op: api.OpReturn}, {Op: api.OpLoad}, {Op: api.OpReturn},
		},
		Words: []int64{2, 7, 8, 2, 0, 0},
		Fns:   []api.Fn{{Item: 1, Start: 2, Body: 4, End: 6, Frame: 4096}, {Item: 2, Start: 6, Body: 7, End: 13, Frame: 1}},
		Runs: []api.Run{
			from(0, 0, 0, false, 0),
			from(2, 1, 0, false, 0), from(4, 1, 4096, false, 0),
			from(6, 2, 0, false, 0), from(7, 2, 1, false, 5), from(9, 2, 1, true, 7), from(11, 2, 1, false, 7),
		},
		Entry: 6,
	})
}

// P34.1: plans that keep nobody, and lists that are shorter, and longer, than that of functions.
func TestMakePlans(t *testing.T) {
	p := play(t)
	nobody := api.Image{Code: []api.Instr{{Op: api.OpBottom}, {Op: api.OpDriver}}, Words: []int64{2, 7, 8, 2, 0, 0}, Runs: []api.Run{from(0, 0, 0, false, 0)}, Entry: -1}
	for _, plan := range []api.Plan{{}, keeps("---", 1, 2, 3), keeps("", 1, 1, 1), keeps("---k", 0, 0, 0, 1), {Kept: []bool{}, Checks: []int{}}} {
		made(t, p, plan, nobody)
		made(t, api.Program{Dats: p.Dats}, plan, nobody)
	}
	made(t, api.Program{}, api.Plan{}, api.Image{Code: nobody.Code, Runs: nobody.Runs, Entry: -1})
	// A plan of the first one alone, whose own code has no need of the others.
	first := api.Image{
		Code:  append(slices.Clone(nobody.Code), api.Instr{Op: api.OpCheck, A: 1, N: 2}, api.Instr{Op: api.OpEnter, A: 2, B: 1, N: 2}, api.Instr{Op: api.OpSet, A: 1, N: 4}, api.Instr{Op: api.OpReturn, A: 1, B: 1}),
		Words: []int64{2, 7, 8, 2, 0, 2},
		Fns:   []api.Fn{{Start: 2, Body: 4, End: 6, Frame: 2}},
		Runs:  []api.Run{from(0, 0, 0, false, 0), from(2, 1, 0, false, 0), from(4, 1, 2, false, 9)},
		Entry: -1,
	}
	made(t, p, keeps("k", 1), first)
	made(t, p, keeps("k--kk", 1, 1, 1, 1, 1), first)
	p.Entry = 0
	first.Entry = 2
	made(t, p, keeps("k", 1, 0, 3), first)
}

// P34.1, Entry: each function's, kept or not, and numbers of none.
func TestMakeEntry(t *testing.T) {
	f := api.Fun{F: api.Func{Code: make([]api.Instr, 3)}}
	p := api.Program{Funs: []api.Fun{f, f, f}}
	for _, x := range []struct {
		plan api.Plan
		want []int
	}{
		{keeps("kkk"), []int{2, 6, 10}},
		{keeps("kkk", 1, 1, 1), []int{2, 7, 12}},
		{keeps("-k-", 1, 1, 1), []int{-1, 2, -1}},
		{keeps("k-k", 1), []int{2, -1, 7}},
		{keeps("k"), []int{2, -1, -1}},
		{keeps("---kk"), []int{-1, -1, -1}},
		{api.Plan{}, []int{-1, -1, -1}},
	} {
		for _, n := range numbers() {
			p.Entry = n
			want := -1
			if 0 <= n && n < 3 {
				want = x.want[n]
			}
			if got := image.Make(p, x.plan).Entry; got != want {
				t.Errorf("of the entry %d with %v: %d; want %d", n, x.plan, got, want)
			}
		}
	}
}

// P34.1: numbers in Refs that are missing, or of none, and classes that are none.
func TestMakeWrong(t *testing.T) {
	for _, n := range append(numbers(), 5) {
		f := api.Fun{F: api.Func{Class: n, Code: []api.Instr{{Op: api.OpCall, A: 1, C: 9, N: 99}, {Op: api.OpLoad, A: 1, B: 2, N: 98}, {Op: api.OpReturn}, {Op: api.OpJump, N: 2}}}, Refs: []int{n, n}}
		p := api.Program{Funs: []api.Fun{f}, Dats: []api.Dat{{D: api.Data{Kind: n, Words: []int64{66, 67}}, Refs: []int{n}}}, Entry: 0}
		params, answers := 0, 0
		if 0 <= n && n < 8 {
			params, answers = n/2, n%2
		}
		want := api.Image{
			Code: []api.Instr{{Op: api.OpBottom}, {Op: api.OpDriver},
				{Op: api.OpEnter, B: params}, {Op: api.OpCall, A: 1, C: 9, N: 99}, {Op: api.OpLoad, A: 1, B: 2, N: 98}, {Op: api.OpReturn, B: answers}, {Op: api.OpJump, N: 5}},
			Words: []int64{2, 0, 0},
			Fns:   []api.Fn{{Start: 2, Body: 3, End: 7}},
			Runs:  []api.Run{from(0, 0, 0, false, 0), from(2, 1, 0, false, 0)},
			Entry: 2,
		}
		if n == 0 {
			want.Code[3].C, want.Code[3].N, want.Code[4].N, want.Words[1] = n, 2, 0, 2
		}
		if n == -1 {
			want.Words[1] = 66
		}
		made(t, p, keeps("k"), want)
		p.Funs[0].Refs, p.Dats[0].Refs = nil, nil
		want.Code[3].C, want.Code[3].N, want.Code[4].N, want.Words[1] = 9, 99, 98, 0
		made(t, p, keeps("k"), want)
	}
}

// P34.3, At: each place of an image, ahead of it, and behind it.
func TestAt(t *testing.T) {
	p := play(t)
	m := image.Make(p, prologue.Full(p))
	row := func(fn, frame int, pending bool, line int) api.Row { return from(0, fn, frame, pending, line).Row }
	one, two, three := row(1, 2, false, 9), row(2, 4096, false, 0), row(3, 1, false, 5)
	want := []api.Row{{}, {}, {Fn: 1}, {Fn: 1}, one, one, {Fn: 2}, {Fn: 2}, two, two, {Fn: 3}, {Fn: 3}, three, three, row(3, 1, true, 7), row(3, 1, true, 7), row(3, 1, false, 7), row(3, 1, false, 7)}
	for pc, row := range want {
		if got := image.At(m, pc); got != row {
			t.Errorf("At(%d) = %v; want %v", pc, got, row)
		}
	}
	for _, pc := range numbers() {
		if pc < 0 || pc >= len(want) {
			if got := image.At(m, pc); got != (api.Row{}) {
				t.Errorf("At(%d) = %v", pc, got)
			}
		}
	}
	if got := image.At(m, len(want)); got != (api.Row{}) {
		t.Errorf("At(%d) = %v", len(want), got)
	}
}

// P34.3, At: of images that are not whole: the code tells which places there are, and their rows are as layer 13 has them.
func TestAtWrong(t *testing.T) {
	x, y, z := api.Row{Fn: 1}, api.Row{Fn: 2, Defer: true}, api.Row{Fn: 3, Line: 4}
	for _, c := range []struct {
		places int
		runs   []api.Run
		want   []api.Row // of the places -2 to 4
	}{
		{0, nil, make([]api.Row, 7)},
		{0, []api.Run{{From: 0, Row: x}}, make([]api.Row, 7)},
		{0, []api.Run{{From: -9, Row: x}}, make([]api.Row, 7)},
		{3, nil, make([]api.Row, 7)},
		{3, []api.Run{{From: -9, Row: x}}, []api.Row{{}, {}, x, x, x, {}, {}}},
		{3, []api.Run{{From: 1, Row: x}, {From: 2, Row: y}}, []api.Row{{}, {}, {}, x, y, {}, {}}},
		{3, []api.Run{{From: 0, Row: x}, {From: 9, Row: y}}, []api.Row{{}, {}, x, x, x, {}, {}}},
		{4, []api.Run{{From: 0, Row: x}, {From: 3, Row: y}, {From: 1, Row: z}}, []api.Row{{}, {}, x, x, x, z, {}}},
		{4, []api.Run{{From: 2, Row: x}, {From: 1, Row: y}, {From: 1, Row: z}}, []api.Row{{}, {}, {}, {}, z, z, {}}},
		{1, []api.Run{{From: math.MinInt, Row: x}, {From: math.MaxInt, Row: y}}, []api.Row{{}, {}, x, {}, {}, {}, {}}},
	} {
		m := api.Image{Code: make([]api.Instr, c.places), Runs: c.runs}
		for at, want := range c.want {
			if got := image.At(m, at-2); got != want {
				t.Errorf("At(%+v, %d) = %v; want %v", m, at-2, got, want)
			}
		}
	}
}

// fn holds Fn to what it answers of these places.
func fn(t *testing.T, fns []api.Fn, want int, places ...int) {
	t.Helper()
	for _, pc := range places {
		if got := image.Fn(api.Image{Fns: fns}, pc); got != want {
			t.Errorf("Fn(%+v, %d) = %d; want %d", fns, pc, got, want)
		}
	}
}

// P34.3, Fn: just ahead of a function, where it starts, at its body, at its last instruction, and just behind it; whatever its body is.
func TestFn(t *testing.T) {
	fns := []api.Fn{{Start: 2, Body: 3, End: 6}, {Start: 6, Body: 8, End: 9}, {Start: 9, Body: 11, End: 11}, {Start: 11, Body: 99, End: 16}}
	fn(t, fns, -1, -1, 0, 1, 16, 17, 99)
	fn(t, fns, 0, 2, 3, 5)
	fn(t, fns, 1, 6, 7, 8)
	fn(t, fns, 2, 9, 10)
	fn(t, fns, 3, 11, 12, 15)
	fn(t, nil, -1, numbers()...)
	fn(t, []api.Fn{{}}, -1, numbers()...)
}

// P34.3, Fn: of functions that overlap the first is told; gaps, and what is beyond the code, are told as the functions say.
func TestFnOverlap(t *testing.T) {
	fns := []api.Fn{{Start: 5, Body: 5, End: 9}, {Start: 3, Body: 4, End: 7}, {Start: 3, End: 20}, {Start: 30, End: 33}, {Start: 40, End: 35}}
	fn(t, fns, -1, 0, 2, 20, 29, 33, 35, 37, 40)
	fn(t, fns, 0, 5, 6, 7, 8)
	fn(t, fns, 1, 3, 4)
	fn(t, fns, 2, 9, 19)
	fn(t, fns, 3, 30, 32)
	for _, n := range numbers() {
		fn(t, []api.Fn{{Start: n, Body: n, End: n}, {Start: math.MaxInt, End: n}, {Start: n, End: math.MinInt}}, -1, numbers()...)
		if n < math.MaxInt {
			fn(t, []api.Fn{{}, {Start: n, End: math.MaxInt}}, 1, n, math.MaxInt-1)
			fn(t, []api.Fn{{Start: n, End: n + 1}}, -1, n+1, math.MaxInt)
			fn(t, []api.Fn{{Start: n + 1, End: math.MaxInt}}, -1, n, math.MinInt, math.MaxInt)
		}
	}
}

// fill writes over all of l, up to its capacity.
func fill[T any](l []T, x T) {
	l = l[:cap(l)]
	for i := range l {
		l[i] = x
	}
}

// fillImage writes over all of m's lists.
func fillImage(m api.Image) {
	fill(append(m.Code, api.Instr{Op: 77}), api.Instr{Op: 78})
	fill(append(m.Words, 77), 78)
	fill(append(m.Fns, api.Fn{Start: 77}), api.Fn{Start: 78})
	fill(append(m.Runs, api.Run{From: 77}), api.Run{From: 78})
	fill(m.Code, api.Instr{Op: 79})
	fill(m.Words, 79)
	fill(m.Fns, api.Fn{Start: 79})
	fill(m.Runs, api.Run{From: 79})
}

// The rules: what is answered shares no memory with what is handed in, or with a later answer; nothing that is handed in is changed, or kept.
func TestShares(t *testing.T) {
	p := play(t)
	plan := keeps("kkk", 1, 0, 2)
	was, want := fmt.Sprint(p, plan), fmt.Sprint(image.Make(p, plan))
	fillImage(image.Make(p, plan))
	m := image.Make(p, plan)
	if now := fmt.Sprint(m); now != want {
		t.Errorf("%s came to be %s", want, now)
	}
	if now := fmt.Sprint(p, plan); now != was {
		t.Errorf("%s came to be %s", was, now)
	}
	for at := range p.Funs {
		fill(p.Funs[at].F.Code, api.Instr{Op: 77})
		fill(p.Funs[at].F.Lines, api.Line{Line: 77})
		fill(p.Funs[at].Refs, 0)
	}
	for at := range p.Dats {
		fill(p.Dats[at].D.Words, 77)
		fill(p.Dats[at].Refs, 0)
	}
	fill(p.Funs, api.Fun{})
	fill(p.Dats, api.Dat{})
	fill(plan.Kept, false)
	fill(plan.Checks, 77)
	if now := fmt.Sprint(m); now != want {
		t.Errorf("%s came to be %s", want, now)
	}
	image.Check(m)
	image.At(m, 4)
	image.Fn(m, 4)
	if now := fmt.Sprint(m); now != want {
		t.Errorf("%s came to be %s", want, now)
	}
	if n := reflect.TypeOf(m).NumField(); n != 5 {
		t.Errorf("an image has %d parts", n)
	}
}
