package elide_test

import (
	"fmt"
	"math"
	"slices"
	"strings"
	"testing"

	"sheerleg/api"
	"sheerleg/asm"
	"sheerleg/bind"
	"sheerleg/elide"
)

// numbers are those that any call may be given.
func numbers() []int {
	return []int{math.MinInt, math.MinInt + 1, -1 << 32, -65536, -57, -2, -1, 0, 1, 2, 3, 7, 8, 9, 55, 56, 57, 64, 65, 4096, 1<<20 - 1, 1 << 20, 1<<20 + 1, 1 << 31, 1 << 32, 1<<32 + 1, math.MaxInt - 1, math.MaxInt}
}

// bound is the program of a text, whose lines are told one by one, or several with a / between.
func bound(t *testing.T, lines ...string) api.Program {
	t.Helper()
	s := strings.ReplaceAll(strings.Join(lines, "\n"), " / ", "\n")
	o, at, e := asm.Parse(s)
	if e != api.OK {
		t.Fatalf("%v at line %d of\n%s", e, at, s)
	}
	p, r := bind.Bind([]api.Object{o}, "main")
	if r.Why != api.OK {
		t.Fatalf("%v of\n%s", r, s)
	}
	return p
}

// does is an instruction with a class, and the number to which it refers.
type does struct {
	op, c, to int
}

// calls, defers, takes refer to a number, via to a class.
func calls(to int) does  { return does{api.OpCall, 0, to} }
func defers(to int) does { return does{api.OpDefer, 0, to} }
func takes(to int) does  { return does{api.OpFunc, 0, to} }
func via(class int) does { return does{api.OpVia, class, -1} }

// fun is a function of class 0 with a frame of so many words, and such instructions.
func fun(frame int, l ...does) api.Fun {
	f := api.Fun{F: api.Func{Pad: frame}}
	for _, x := range l {
		f.F.Code = append(f.F.Code, api.Instr{Op: x.op, C: x.c})
		f.Refs = append(f.Refs, x.to)
	}
	return f
}

// nosplit is f, of which the programmer said that it has no check.
func nosplit(f api.Fun) api.Fun {
	f.F.Nosplit = true
	return f
}

// program has these functions, and the first one as its entry.
func program(l ...api.Fun) api.Program {
	return api.Program{Funs: l}
}

// sketch is p as it is told where a test fails: of each function its frame, and whom it calls.
func sketch(p api.Program) string {
	var b strings.Builder
	fmt.Fprintf(&b, "entry %d:", p.Entry)
	for at, f := range p.Funs {
		fmt.Fprintf(&b, " %d(%d+%d", at, len(f.F.Kinds), f.F.Pad)
		if f.F.Nosplit {
			b.WriteString(" nosplit")
		}
		for i, x := range f.F.Code {
			fmt.Fprintf(&b, " %d.%d", x.Op, x.C)
			if i < len(f.Refs) {
				fmt.Fprintf(&b, "@%d", f.Refs[i])
			}
		}
		b.WriteString(")")
	}
	return b.String()
}

// marks are what stands for one with a mark, f, and for one without, another letter.
func marks(s string) []bool {
	l := make([]bool, len(s))
	for i := range s {
		l[i] = s[i] == 'f'
	}
	return l
}

// letters are the marks as marks reads them.
func letters(l []bool) string {
	s := make([]byte, len(l))
	for i, is := range l {
		s[i] = '-'
		if is {
			s[i] = 'f'
		}
	}
	return string(s)
}

// answers are what is told of a program: candidates, who is free, who is kept, each as letters, checks, and how many candidates are free.
type answers struct {
	order      []int
	free, kept string
	checks     []int
	saved      int
}

func ask(p api.Program) answers {
	plan := elide.Plan(p)
	return answers{elide.Order(p), letters(elide.Free(p)), letters(plan.Kept), plan.Checks, elide.Saved(p)}
}

// holds holds all calls to what they answer of p.
func holds(t *testing.T, p api.Program, want answers) {
	t.Helper()
	got := ask(p)
	if !slices.Equal(got.order, want.order) {
		t.Errorf("Order of %s = %v; want %v", sketch(p), got.order, want.order)
	}
	if got.free != want.free {
		t.Errorf("Free of %s = %s; want %s", sketch(p), got.free, want.free)
	}
	if got.kept != want.kept || !slices.Equal(got.checks, want.checks) {
		t.Errorf("Plan of %s = %s, %v; want %s, %v", sketch(p), got.kept, got.checks, want.kept, want.checks)
	}
	if got.saved != want.saved {
		t.Errorf("Saved of %s = %d; want %d", sketch(p), got.saved, want.saved)
	}
}

// Example 1, and the first one of the whole: who has a small frame, and calls nobody, has no check.
func TestExamples(t *testing.T) {
	p := bound(t, "proc f f0 / slots n n / return 0", "proc main f0 / pad 57 / call 0 @f / return 0")
	holds(t, p, answers{[]int{0, 1}, "f-", "ff", []int{0, 2}, 1})
	p = bound(t, "proc main f0r / slots n / set 0 7 / return 0")
	holds(t, p, answers{[]int{0}, "f", "f", []int{0}, 1})
	// The second one: f, of whose frame of 70 words there is no room without a check, is checked, and main, that calls it, is not.
	p = bound(t, "proc main f0 / call 0 @f / return 0", "proc f f0 / pad 70 / return 0")
	holds(t, p, answers{[]int{0, 1}, "f-", "ff", []int{0, 3}, 1})
}

// P31.1, Order: by rising frames, of equal ones by rising numbers.
func TestOrder(t *testing.T) {
	p := program(fun(5, calls(1), calls(2), calls(3), calls(4), calls(5), calls(6)), fun(3), fun(5), fun(0), fun(3), fun(9), fun(0))
	for _, n := range []int{0, 1, 2} { // slots count, too
		p.Funs[3].F.Kinds = make([]int, 4*n)
		want := [][]int{{3, 6, 1, 4, 0, 2, 5}, {6, 1, 4, 3, 0, 2, 5}, {6, 1, 4, 0, 2, 3, 5}}[n]
		if l := elide.Order(p); !slices.Equal(l, want) {
			t.Errorf("Order of %s = %v; want %v", sketch(p), l, want)
		}
	}
	alike := make([]api.Fun, 20)
	for at := range alike {
		alike[at] = fun(7, calls(0), calls(19-at))
	}
	alike[0] = fun(7)
	for at := range alike {
		alike[0].F.Code = append(alike[0].F.Code, api.Instr{Op: api.OpCall})
		alike[0].Refs = append(alike[0].Refs, at)
	}
	p = program(alike...)
	for at, n := range elide.Order(p) {
		if n != at {
			t.Errorf("of functions alike %d is at %d", n, at)
		}
	}
	if l := elide.Order(p); len(l) != 20 {
		t.Errorf("of functions alike: %v", l)
	}
}

// P31.1, Order: Pad counts as from 0 to 2^20.
func TestOrderFrames(t *testing.T) {
	for _, n := range numbers() {
		for _, m := range numbers() {
			p := program(fun(n, calls(1)), fun(m))
			p.Funs[0].F.Kinds = make([]int, 2)
			p.Funs[1].F.Kinds = make([]int, 1)
			want := []int{0, 1}
			if 1+max(0, min(m, 1<<20)) < 2+max(0, min(n, 1<<20)) {
				want = []int{1, 0}
			}
			if l := elide.Order(p); !slices.Equal(l, want) {
				t.Errorf("Order of %s = %v; want %v", sketch(p), l, want)
			}
		}
	}
}

// P31.1: no candidate is who is not called, though it is live, nor who is Nosplit.
func TestNoCandidates(t *testing.T) {
	// 1 is taken, but nobody calls its class; 2 is called by nobody who is live; 3 is Nosplit, and not live.
	p := program(fun(9, takes(1)), fun(1), fun(1, calls(1)), nosplit(fun(1)))
	holds(t, p, answers{[]int{0}, "f--f", "ff--", []int{0, 1, 1, 0}, 1})
	// With a via of the class it is called.
	p.Funs[0] = fun(9, takes(1), via(0))
	holds(t, p, answers{[]int{1, 0}, "ff-f", "ff--", []int{0, 0, 1, 0}, 2})
	p.Funs[0] = fun(9, takes(1), via(1))
	holds(t, p, answers{[]int{0}, "f--f", "ff--", []int{0, 1, 1, 0}, 1})
	// All are Nosplit, and called, and taken.
	p = program(nosplit(fun(9, takes(1), calls(2))), nosplit(fun(1)), nosplit(fun(2)))
	holds(t, p, answers{nil, "fff", "fff", []int{0, 0, 0}, 0})
	// Who is Nosplit, live, and not called has no check, as the programmer said; whatever its frame is.
	p = program(fun(1, takes(1)), nosplit(fun(99, calls(1))))
	holds(t, p, answers{[]int{0}, "ff", "ff", []int{0, 0}, 1})
	holds(t, api.Program{}, answers{})
	holds(t, api.Program{Funs: []api.Fun{}, Dats: make([]api.Dat, 2)}, answers{})
}

// P31.1: with an entry that is not there nobody is called, or live.
func TestNoEntry(t *testing.T) {
	p := program(fun(1, calls(1)), nosplit(fun(2)), fun(70, calls(0)))
	for _, n := range numbers() {
		p.Entry = n
		want := answers{nil, "-f-", "---", []int{1, 0, 3}, 0}
		switch n {
		case 0:
			want = answers{[]int{0}, "ff-", "ff-", []int{0, 0, 3}, 1}
		case 1:
			want = answers{nil, "-f-", "-f-", []int{1, 0, 3}, 0}
		case 2:
			want = answers{[]int{0, 2}, "ff-", "fff", []int{0, 0, 3}, 1}
		}
		holds(t, p, want)
		holds(t, api.Program{Entry: n}, answers{})
	}
}

// P31.1, Free: at the start 1, and what the entry needs, are at most 56.
func TestStart(t *testing.T) {
	for frame, want := range map[int]answers{
		0:       {[]int{0}, "f", "f", []int{0}, 1},
		54:      {[]int{0}, "f", "f", []int{0}, 1},
		55:      {[]int{0}, "f", "f", []int{0}, 1},
		56:      {[]int{0}, "-", "f", []int{2}, 0},
		64:      {[]int{0}, "-", "f", []int{2}, 0},
		65:      {[]int{0}, "-", "f", []int{3}, 0},
		4096:    {[]int{0}, "-", "f", []int{3}, 0},
		-1:      {[]int{0}, "f", "f", []int{0}, 1},
		1 << 40: {[]int{0}, "-", "f", []int{3}, 0},
	} {
		holds(t, program(fun(frame)), want)
	}
	// Two, one calling the other: 1, 20, 1, 34 are just few enough.
	holds(t, program(fun(20, calls(1)), fun(34)), answers{[]int{0, 1}, "ff", "ff", []int{0, 0}, 2})
	holds(t, program(fun(34, calls(1)), fun(20)), answers{[]int{1, 0}, "ff", "ff", []int{0, 0}, 2})
	// One word more, and the greater one has a check.
	holds(t, program(fun(20, calls(1)), fun(35)), answers{[]int{0, 1}, "f-", "ff", []int{0, 2}, 1})
	holds(t, program(fun(35, calls(1)), fun(20)), answers{[]int{1, 0}, "-f", "ff", []int{2, 0}, 1})
	// Of equal ones the first one is free.
	holds(t, program(fun(27, calls(1)), fun(27)), answers{[]int{0, 1}, "ff", "ff", []int{0, 0}, 2})
	holds(t, program(fun(28, calls(1)), fun(28)), answers{[]int{0, 1}, "f-", "ff", []int{0, 2}, 1})
	p := program(fun(28), fun(28, calls(0)))
	p.Entry = 1
	holds(t, p, answers{[]int{0, 1}, "f-", "ff", []int{0, 2}, 1})
}

// P31.1, Free: frames of no word need one, so that a long chain of them is free just up to its Limit.
func TestEmptyFrames(t *testing.T) {
	chain := func(many int) api.Program {
		var l []api.Fun
		for at := range many {
			l = append(l, fun(0, calls(at+1)))
		}
		return program(l...)
	}
	// Each costs 2 words, one that is called with a check 2, too.
	for many, want := range map[int]string{1: "f", 2: "ff", 27: strings.Repeat("f", 27), 28: strings.Repeat("f", 28), 29: strings.Repeat("f", 27) + "-f", 30: strings.Repeat("f", 27) + "-ff"} {
		p := chain(many)
		if free := letters(elide.Free(p)); free != want {
			t.Errorf("of %d: %s; want %s", many, free, want)
		}
		if saved := elide.Saved(p); saved != strings.Count(want, "f") {
			t.Errorf("of %d: %d are saved", many, saved)
		}
	}
}

// P31.1, Free: a candidate that closes a circle has a check, and only that one.
func TestCircles(t *testing.T) {
	holds(t, program(fun(1, calls(0))), answers{[]int{0}, "-", "f", []int{1}, 0})
	holds(t, program(fun(1, calls(1)), fun(2, calls(0))), answers{[]int{0, 1}, "f-", "ff", []int{0, 1}, 1})
	holds(t, program(fun(2, calls(1)), fun(1, calls(0))), answers{[]int{1, 0}, "-f", "ff", []int{1, 0}, 1})
	holds(t, program(fun(1, calls(1)), fun(1, calls(2)), fun(1, defers(0), calls(2))), answers{[]int{0, 1, 2}, "ff-", "fff", []int{0, 0, 1}, 2})
	// Through a via, and through a Nosplit one.
	holds(t, program(fun(3, takes(1), via(0)), fun(2, calls(0))), answers{[]int{1, 0}, "-f", "ff", []int{1, 0}, 1})
	holds(t, program(fun(1, calls(1)), nosplit(fun(2, calls(0)))), answers{[]int{0}, "-f", "ff", []int{1, 0}, 0})
	// Two circles: one lies behind the other, with a check each.
	holds(t, program(fun(1, calls(0), calls(1)), fun(1, calls(2)), fun(1, calls(1))), answers{[]int{0, 1, 2}, "-f-", "fff", []int{1, 0, 1}, 1})
}

// P31.1: if something is said against the Nosplit ones alone, no candidate is free.
func TestRefused(t *testing.T) {
	// Too deep at the start, behind a check, and in a circle; 0 and 3 alone would be free.
	for _, l := range [][]api.Fun{
		{fun(1, calls(1), calls(3)), nosplit(fun(20, calls(2))), nosplit(fun(35)), fun(0)},
		{fun(1, calls(1), calls(3)), nosplit(fun(1, calls(2))), nosplit(fun(1, calls(1))), fun(0)},
		{fun(1, calls(1), calls(3)), fun(70, calls(2)), nosplit(fun(56)), fun(0)},
		{fun(1, calls(3), calls(1)), nosplit(fun(2, calls(1))), nosplit(fun(1)), fun(0)},
	} {
		p := program(l...)
		free := letters(elide.Free(p))
		for at, f := range p.Funs {
			if (free[at] == 'f') != f.F.Nosplit {
				t.Errorf("Free of %s = %s", sketch(p), free)
			}
		}
		if saved := elide.Saved(p); saved != 0 {
			t.Errorf("Saved of %s = %d", sketch(p), saved)
		}
		if l := elide.Order(p); !slices.Contains(l, 0) || !slices.Contains(l, 3) {
			t.Errorf("Order of %s = %v", sketch(p), l)
		}
	}
	p := program(nosplit(fun(56)), fun(0))
	holds(t, p, answers{nil, "f-", "f-", []int{0, 1}, 0})
	p.Funs[0].F.Pad = 55
	holds(t, p, answers{nil, "f-", "f-", []int{0, 1}, 0})
	// Nosplit ones that nobody calls say nothing against a candidate.
	holds(t, program(fun(0), nosplit(fun(99, calls(1)))), answers{[]int{0}, "ff", "f-", []int{0, 0}, 1})
}

// P31.1, Free: who came ahead is free for good; one that is refused leaves room for a later one.
func TestOneByOne(t *testing.T) {
	// 1 is on the way to 2 and to 3: with 0 and 1 free 2 is too deep, but 3, behind no other, is not.
	p := program(fun(1, calls(1), calls(3)), fun(20, calls(2)), fun(33), fun(40))
	holds(t, p, answers{[]int{0, 1, 2, 3}, "ff-f", "ffff", []int{0, 0, 2, 0}, 3})
	p.Funs[2].F.Pad = 32
	holds(t, p, answers{[]int{0, 1, 2, 3}, "ffff", "ffff", []int{0, 0, 0, 0}, 4})
	// Behind a check there is room for a chain of its own: 1 has one, and 2 of 54 words is free.
	p = program(fun(2, calls(1)), fun(54, calls(2)), fun(53))
	holds(t, p, answers{[]int{0, 2, 1}, "f-f", "fff", []int{0, 2, 0}, 2})
	// What a Nosplit one needs takes room from its callers.
	p = program(fun(5, calls(1)), nosplit(fun(48)), fun(3, calls(1)))
	holds(t, p, answers{[]int{0}, "ff-", "ff-", []int{0, 0, 1}, 1})
	p.Funs[1].F.Pad = 49
	holds(t, p, answers{[]int{0}, "ff-", "ff-", []int{0, 0, 1}, 1})
	p.Funs[1].F.Pad = 50
	holds(t, p, answers{[]int{0}, "-f-", "ff-", []int{1, 0, 1}, 0})
}

// P31.1, Plan: those that are live are kept; each that is not free has the least check of its frame.
func TestPlan(t *testing.T) {
	for frame, want := range map[int]int{0: 1, 8: 1, 9: 2, 64: 2, 65: 3, -5: 1} {
		p := program(fun(frame, calls(0)), fun(frame), fun(frame, calls(2)))
		holds(t, p, answers{[]int{0}, "---", "f--", []int{want, want, want}, 0})
	}
}

// fill writes over all of l, up to its capacity.
func fill[T any](l []T, x T) {
	l = l[:cap(l)]
	for i := range l {
		l[i] = x
	}
}

// The rules: what is answered shares no memory with what is handed in, or with a later answer; nothing that is handed in is changed, or kept.
func TestShares(t *testing.T) {
	p := program(fun(5, calls(1), calls(2)), nosplit(fun(9)), fun(56), fun(1, calls(0)))
	was, want := fmt.Sprint(p), fmt.Sprint(ask(p))
	fill(append(elide.Order(p), 77), 78)
	fill(elide.Order(p), 79)
	for _, is := range []bool{false, true} {
		fill(append(elide.Free(p), is), is)
		fill(elide.Free(p), is)
		plan := elide.Plan(p)
		fill(append(plan.Kept, is), is)
		fill(append(plan.Checks, 77), 78)
		fill(plan.Kept, is)
		fill(plan.Checks, 79)
	}
	if now := fmt.Sprint(ask(p)); now != want {
		t.Errorf("%s came to be %s", want, now)
	}
	if now := fmt.Sprint(p); now != was {
		t.Errorf("%s came to be %s", was, now)
	}
	order, free, plan := elide.Order(p), elide.Free(p), elide.Plan(p)
	want = fmt.Sprint(order, free, plan)
	fill(p.Funs, nosplit(fun(99)))
	if now := fmt.Sprint(order, free, plan); now != want {
		t.Errorf("%s came to be %s", want, now)
	}
}
