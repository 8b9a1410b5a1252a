package elide_test

import (
	"slices"
	"strings"
	"testing"

	"sheerleg/api"
	"sheerleg/chain"
	"sheerleg/elide"
	"sheerleg/live"
	"sheerleg/prologue"
)

// chance gives numbers that look as if they hung on nothing, always the same ones.
type chance uint64

func (c *chance) next(n int) int {
	*c = *c*6364136223846793005 + 1442695040888963407
	return int(*c >> 33 % chance(n))
}

// some is a program of a few functions, which call one another; few of them call one ahead of them, so that there are not too many circles.
func (c *chance) some() api.Program {
	var l []api.Fun
	many := 1 + c.next(8)
	for at := range many {
		f := fun([]int{0, 3, 7, 12, 20, 33, 50, 70}[c.next(8)])
		for range c.next(4) {
			to := at + 1 + c.next(many)
			if c.next(12) == 0 {
				to = c.next(many)
			}
			x := []does{calls(to), calls(to), defers(to), takes(to), via(c.next(2))}[c.next(5)]
			f.F.Code = append(f.F.Code, api.Instr{Op: x.op, C: x.c})
			f.Refs = append(f.Refs, x.to)
		}
		f.F.Class = c.next(2)
		f.F.Nosplit = c.next(6) == 0
		l = append(l, f)
	}
	p := program(l...)
	if c.next(20) == 0 {
		p.Entry = c.next(many+2) - 1
	}
	return p
}

// words is how many words the function at needs, if those are free; many, if a way of free ones is too long to end.
func words(p api.Program, graph [][]int, free []bool, at, steps int) int {
	const many = 1 << 40
	if steps > len(graph) {
		return many
	}
	if !free[at] {
		return 1
	}
	most := 0
	for _, to := range graph[at] {
		most = max(most, 1+words(p, graph, free, to, steps+1))
	}
	f := p.Funs[at].F
	return max(1, len(f.Kinds)+max(0, min(f.Pad, 1<<20))) + most
}

// isFine tells whether nothing is to be said against those, by going all ways from each function.
func isFine(p api.Program, graph [][]int, called, free []bool) bool {
	if 1+words(p, graph, free, p.Entry, 0) > 56 {
		return false
	}
	for at := range graph {
		if !called[at] {
			continue
		}
		for _, to := range graph[at] {
			if 1+words(p, graph, free, to, 0) > 56 {
				return false
			}
		}
	}
	return true
}

// oracle looks at one candidate after another.
func oracle(p api.Program) answers {
	graph, called, kept := live.Graph(p), live.Called(p), live.Live(p)
	var want answers
	frame := func(at int) int { return len(p.Funs[at].F.Kinds) + max(0, min(p.Funs[at].F.Pad, 1<<20)) }
	free := make([]bool, len(p.Funs))
	for at, f := range p.Funs {
		free[at] = f.F.Nosplit
		if called[at] && !f.F.Nosplit {
			want.order = append(want.order, at)
		}
	}
	slices.SortStableFunc(want.order, func(a, b int) int { return frame(a) - frame(b) })
	for _, at := range want.order {
		more := slices.Clone(free)
		more[at] = true
		if isFine(p, graph, called, more) {
			free = more
			want.saved++
		}
	}
	for at := range p.Funs {
		least := map[bool]int{true: 1, false: 2}[frame(at) <= 8]
		if frame(at) > 64 {
			least = 3
		}
		if free[at] {
			least = 0
		}
		want.checks = append(want.checks, least)
	}
	want.free, want.kept = letters(free), letters(kept)
	return want
}

// P31.1: many programs, held against the oracle.
func TestMany(t *testing.T) {
	c := chance(31)
	seen := map[string]int{}
	for range 20000 {
		p := c.some()
		want := oracle(p)
		holds(t, p, want)
		if t.Failed() {
			return
		}
		seen["candidates"] += len(want.order)
		seen["free"] += want.saved
		seen["refused"] += len(want.order) - want.saved
		seen["not kept"] += strings.Count(want.kept, "-")
		if len(want.order) > 0 && want.saved == 0 {
			seen["none"]++
		}
		if len(want.order) > 2 && want.saved == len(want.order) {
			seen["all"]++
		}
	}
	for what, least := range map[string]int{"candidates": 20000, "free": 20000, "refused": 5000, "not kept": 5000, "none": 1000, "all": 500} {
		if seen[what] < least {
			t.Errorf("%s: %d", what, seen[what])
		}
	}
}

// P31.2: against those that are free nothing is to be said, if nothing is against Nosplit ones; with one candidate more there is.
func TestFollows(t *testing.T) {
	c := chance(312)
	fine, more := 0, 0
	for range 10000 {
		p := c.some()
		free := elide.Free(p)
		if chain.Check(p, chain.Nosplit(p)).Why != api.OK {
			if !slices.Equal(free, chain.Nosplit(p)) {
				t.Fatalf("Free of %s = %s", sketch(p), letters(free))
			}
			continue
		}
		fine++
		if r := chain.Check(p, free); r.Why != api.OK {
			t.Fatalf("%s: %+v against %s", sketch(p), r, letters(free))
		}
		for _, at := range elide.Order(p) {
			if free[at] {
				continue
			}
			more++
			free[at] = true
			if r := chain.Check(p, free); r.Why == api.OK {
				t.Fatalf("%s: %d has a check, beside %s", sketch(p), at, letters(free))
			}
			free[at] = false
		}
	}
	if fine < 3000 || more < 3000 {
		t.Errorf("%d, %d", fine, more)
	}
}

// P31.2: no function has a check that has none in the full plan, nor a greater one; and those that are kept are live.
func TestPlanFollows(t *testing.T) {
	c := chance(3120)
	fewer := 0
	for range 10000 {
		p := c.some()
		full, lean := prologue.Full(p), elide.Plan(p)
		if len(lean.Kept) != len(p.Funs) || len(lean.Checks) != len(p.Funs) {
			t.Fatalf("%s: %+v", sketch(p), lean)
		}
		for at, class := range lean.Checks {
			if class < 0 || class > full.Checks[at] {
				t.Fatalf("%s: %d has the check %d, in the full plan %d", sketch(p), at, class, full.Checks[at])
			}
			if class < full.Checks[at] {
				fewer++
			}
		}
		if !slices.Equal(lean.Kept, live.Live(p)) {
			t.Fatalf("%s: %s are kept", sketch(p), letters(lean.Kept))
		}
		if n := strings.Count(letters(elide.Free(p)), "f") - strings.Count(letters(chain.Nosplit(p)), "f"); n != elide.Saved(p) {
			t.Fatalf("%s: %d are free, %d are saved", sketch(p), n, elide.Saved(p))
		}
	}
	if fewer < 10000 {
		t.Errorf("%d", fewer)
	}
}

// P7: each call ends at programs of all sorts, and tells of all functions.
func TestEnds(t *testing.T) {
	for _, n := range numbers() {
		f := api.Fun{File: n, Item: n, F: api.Func{Class: n, Kinds: []int{n}, Pad: n, From: n, To: n, Lines: []api.Line{{At: n, Line: n}}, Code: []api.Instr{{Op: n, A: n, B: n, C: n, N: int64(n)}, {Op: api.OpCall, C: n}, {Op: api.OpVia, C: n}, {Op: api.OpDefer}, {Op: api.OpFunc}, {Op: api.OpPick}}, Relocs: []api.Reloc{{At: n, Sym: n}}}, Refs: []int{n, n, n, n, n}}
		d := api.Dat{D: api.Data{Kind: n, Words: []int64{int64(n)}, Relocs: []api.Reloc{{At: n, Sym: n}}}, Refs: []int{n, n}}
		for _, entry := range []int{n, 0, 1, 2} {
			p := api.Program{Funs: []api.Fun{f, {}, nosplit(f), fun(n, calls(0), calls(n), calls(2))}, Dats: []api.Dat{d, {}}, Entry: entry}
			if got := ask(p); len(got.free) != 4 || len(got.kept) != 4 || len(got.checks) != 4 || got.saved > len(got.order) {
				t.Errorf("of %d: %+v", n, got)
			}
		}
	}
}

// P7: many functions, of which few are called; and a few hundred, each calling the next.
func TestGreat(t *testing.T) {
	const many = 1 << 16
	p := api.Program{Funs: make([]api.Fun, many), Entry: many - 1}
	got := ask(p)
	if !slices.Equal(got.order, []int{many - 1}) || got.free != strings.Repeat("-", many-1)+"f" || got.kept != got.free || got.saved != 1 || len(got.checks) != many {
		t.Errorf("of many: %v, %d", got.order, got.saved)
	}
	var l []api.Fun
	for at := range 300 {
		l = append(l, fun(300-at, calls(at+1), calls(at)))
	}
	p = program(append(l, fun(1))...)
	got = ask(p)
	if len(got.order) != 301 || got.order[0] != 299 || got.order[1] != 300 || got.saved != 1 {
		t.Errorf("of a long chain: %v, %d", got.order, got.saved)
	}
}
