package place_test

import (
	"slices"
	"testing"

	"sheerleg/api"
	"sheerleg/place"
)

// chance gives numbers that look as if they hung on nothing, always the same ones.
type chance uint64

func (c *chance) next(n int) int {
	*c = *c*6364136223846793005 + 1442695040888963407
	return int(*c >> 33 % chance(n))
}

// some is a program of a few functions and data.
func (c *chance) some() api.Program {
	var l []api.Fun
	for range c.next(8) {
		f := fun(c.next(7))
		f.F.Nosplit = c.next(2) == 0
		f.F.Kinds = make([]int, c.next(4))
		l = append(l, f)
	}
	p := program(l...)
	p.Entry = c.next(9) - 1
	for range c.next(6) {
		p.Dats = append(p.Dats, dat(c.next(5)))
	}
	return p
}

// plan is any, perhaps of fewer functions, or of more.
func (c *chance) plan(p api.Program) api.Plan {
	many := func() int { return max(0, len(p.Funs)+[]int{0, 0, 0, -1, -2, 1, 5}[c.next(7)]) }
	plan := api.Plan{Kept: make([]bool, many()), Checks: make([]int, many())}
	for i := range plan.Kept {
		plan.Kept[i] = c.next(4) > 0
	}
	for i := range plan.Checks {
		plan.Checks[i] = c.next(4)
	}
	return plan
}

// isKept, isChecked tell what a plan says of a function, of which it may say nothing.
func isKept(plan api.Plan, at int) bool {
	return at < len(plan.Kept) && plan.Kept[at]
}

func isChecked(plan api.Plan, at int) bool {
	return at < len(plan.Checks) && plan.Checks[at] != 0
}

// What stands at a place of an oracle's code that is none of a function's own.
const (
	bottom = -1
	driver = -2
	check  = -3
	enter  = -4
)

// codeOracle lays down the code, place by place: of each what stands there, or the number of the function whose own it is; and, of each function that is kept, its places.
func codeOracle(p api.Program, plan api.Plan) ([]int, map[int][]int) {
	code, places := []int{bottom, driver}, map[int][]int{}
	for at, f := range p.Funs {
		if !isKept(plan, at) {
			continue
		}
		from := len(code)
		if isChecked(plan, at) {
			code = append(code, check)
		}
		code = append(code, enter)
		for range f.F.Code {
			code = append(code, at)
		}
		for n := from; n < len(code); n++ {
			places[at] = append(places[at], n)
		}
	}
	return code, places
}

// oracle finds everything in code that is laid down.
func oracle(p api.Program, plan api.Plan) answers {
	code, places := codeOracle(p, plan)
	want := answers{code: len(code)}
	for at, f := range p.Funs {
		l := places[at]
		if len(l) == 0 {
			want.starts = append(want.starts, -1)
			continue
		}
		want.starts = append(want.starts, l[0])
		body := l[slices.IndexFunc(l, func(n int) bool { return code[n] == enter })] + 1
		want.fns = append(want.fns, api.Fn{File: f.File, Item: f.Item, Start: l[0], Body: body, End: l[len(l)-1] + 1, Frame: len(f.F.Kinds) + max(0, min(f.F.Pad, 1<<20))})
	}
	return want
}

// wordsOracle lays down the words: of each whether it is one that says how many there are; these words' places are the addresses.
func wordsOracle(p api.Program) (int, []int) {
	var heads []bool
	for _, d := range p.Dats {
		heads = append(append(heads, true), make([]bool, len(d.D.Words))...)
	}
	var l []int
	for at, is := range heads {
		if is {
			l = append(l, at)
		}
	}
	return len(heads), l
}

// P29.1, P29.2: many programs and plans, held against the oracle.
func TestMany(t *testing.T) {
	c := chance(29)
	seen := map[string]int{}
	for range 20000 {
		p := c.some()
		plan := c.plan(p)
		want := oracle(p, plan)
		holds(t, p, plan, want)
		words, l := wordsOracle(p)
		addrs(t, p, words, l...)
		if t.Failed() {
			return
		}
		seen["kept"] += len(want.fns)
		seen["not kept"] += len(want.starts) - len(want.fns)
		seen["words"] += words
		for _, f := range want.fns {
			if f.Body-f.Start == 2 {
				seen["checked"]++
			}
		}
	}
	for _, what := range []string{"kept", "not kept", "checked", "words"} {
		if seen[what] < 5000 {
			t.Errorf("%s: %d", what, seen[what])
		}
	}
}

// P29.1, P29.2: each plan of a few functions, with lists of each length.
func TestAllPlans(t *testing.T) {
	p := program(fun(2), nosplit(fun(0)), fun(4))
	for many := range 6 {
		for bits := range 1 << many {
			for others := range 6 {
				for checks := range 1 << others {
					plan := api.Plan{Kept: make([]bool, many), Checks: make([]int, others)}
					for i := range many {
						plan.Kept[i] = bits>>i&1 == 1
					}
					for i := range others {
						plan.Checks[i] = checks >> i & 1 * (1 + i%3)
					}
					holds(t, p, plan, oracle(p, plan))
				}
			}
		}
	}
}

// P29.3: functions that are kept follow one another without gaps, from place 2 to the end, and so do data.
func TestFollows(t *testing.T) {
	c := chance(293)
	for range 5000 {
		p := c.some()
		plan := c.plan(p)
		behind := 2
		for _, f := range place.Fns(p, plan) {
			if f.Start != behind || f.Body <= f.Start || f.Body > f.Start+2 || f.End < f.Body {
				t.Fatalf("%+v, behind %d, of %+v with %+v", f, behind, p, plan)
			}
			behind = f.End
		}
		if n := place.Code(p, plan); n != behind {
			t.Fatalf("Code(%+v, %+v) = %d; want %d", p, plan, n, behind)
		}
		behind = 0
		for at, n := range place.Addrs(p) {
			if n != behind {
				t.Fatalf("%d is at %d, behind %d, of %+v", at, n, behind, p)
			}
			behind += 1 + len(p.Dats[at].D.Words)
		}
		if n := place.Words(p); n != behind {
			t.Fatalf("Words(%+v) = %d; want %d", p, n, behind)
		}
	}
}

// fewer is the plan with one mark fewer, or one check.
func fewer(plan api.Plan, kept, check int) api.Plan {
	plan = api.Plan{Kept: slices.Clone(plan.Kept), Checks: slices.Clone(plan.Checks)}
	if kept >= 0 {
		plan.Kept[kept] = false
	}
	if check >= 0 {
		plan.Checks[check] = 0
	}
	return plan
}

// P29.3: with fewer kept, or with fewer checks, nothing starts later; and what stands behind starts earlier.
func TestFewer(t *testing.T) {
	c := chance(2930)
	earlier := 0
	for range 5000 {
		p := c.some()
		plan := c.plan(p)
		was, code := place.Starts(p, plan), place.Code(p, plan)
		var plans []api.Plan
		for i := range plan.Kept {
			plans = append(plans, fewer(plan, i, -1))
		}
		for i := range plan.Checks {
			plans = append(plans, fewer(plan, -1, i))
		}
		for _, other := range plans {
			for at, n := range place.Starts(p, other) {
				if n > was[at] {
					t.Fatalf("%d starts at %d with %+v, at %d with %+v", at, was[at], plan, n, other)
				}
				if n >= 0 && n < was[at] {
					earlier++
				}
			}
			if n := place.Code(p, other); n > code {
				t.Fatalf("%d instructions with %+v, %d with %+v", code, plan, n, other)
			}
		}
	}
	if earlier < 5000 {
		t.Errorf("%d start earlier", earlier)
	}
}

// P7: each call ends at programs, and plans, of all sorts, and tells of all functions and data.
func TestEnds(t *testing.T) {
	for _, n := range numbers() {
		f := api.Fun{File: n, Item: n, F: api.Func{Class: n, Kinds: []int{n}, Pad: n, From: n, To: n, Lines: []api.Line{{At: n, Line: n}}, Code: []api.Instr{{Op: n, A: n, B: n, C: n, N: int64(n)}}, Relocs: []api.Reloc{{At: n, Sym: n}}}, Refs: []int{n, n}}
		d := api.Dat{File: n, Item: n, D: api.Data{Kind: n, Words: []int64{int64(n)}, Relocs: []api.Reloc{{At: n, Sym: n}}}, Refs: []int{n}}
		p := api.Program{Funs: []api.Fun{f, {}, nosplit(f)}, Dats: []api.Dat{d, {}}, Entry: n}
		for _, kept := range [][]bool{nil, {}, {true}, {false, true}, {true, true, true, true}} {
			for _, checks := range [][]int{nil, {}, {n}, {n, n, n, n}} {
				plan := api.Plan{Kept: kept, Checks: checks}
				holds(t, p, plan, oracle(p, plan))
			}
		}
		addrs(t, p, 3, 0, 2)
	}
	const many = 1 << 17
	p := api.Program{Funs: make([]api.Fun, many), Dats: make([]api.Dat, many)}
	plan := api.Plan{Kept: slices.Repeat([]bool{true}, many), Checks: slices.Repeat([]int{1}, many)}
	l := ask(p, plan)
	if len(l.starts) != many || l.starts[many-1] != 2*many || l.code != 2+2*many || len(l.fns) != many || l.fns[many-1] != (api.Fn{Start: 2 * many, Body: 2 + 2*many, End: 2 + 2*many}) {
		t.Errorf("of many: %d, %d", len(l.starts), l.code)
	}
	if a := place.Addrs(p); len(a) != many || a[many-1] != many-1 || place.Words(p) != many {
		t.Errorf("of many: %d", len(a))
	}
}
