package patch_test

import (
	"math"
	"slices"
	"testing"

	"sheerleg/api"
	"sheerleg/patch"
	"sheerleg/place"
)

// chance gives numbers that look as if they hung on nothing, always the same ones.
type chance uint64

func (c *chance) next(n int) int {
	*c = *c*6364136223846793005 + 1442695040888963407
	return int(*c >> 33 % chance(n))
}

// one is one of the numbers.
func (c *chance) one(l ...int) int {
	return l[c.next(len(l))]
}

// ref is a number that is mostly one of so many things, or -1.
func (c *chance) ref(many int) int {
	if many == 0 || c.next(6) == 0 {
		return c.one(-1, -1, -2, many, many+1, math.MaxInt, math.MinInt)
	}
	return c.next(many)
}

// refs are about so many numbers.
func (c *chance) refs(many, things int) []int {
	var l []int
	for range max(0, many+c.one(0, 0, 0, 0, 0, -1, 2)) {
		l = append(l, c.ref(things))
	}
	return l
}

// some is a program of a few functions and data.
func (c *chance) some() api.Program {
	funs, dats := c.next(7), c.next(5)
	var p api.Program
	for range funs {
		f := api.Fun{F: api.Func{Class: c.next(8), Pad: c.one(0, 3, 70), Kinds: make([]int, c.next(5)), Nosplit: c.next(2) == 0}}
		for range c.next(9) {
			f.F.Code = append(f.F.Code, api.Instr{Op: c.next(30), A: c.next(16), B: c.next(16), C: c.next(8), N: int64(c.next(100) - 50)})
		}
		f.Refs = c.refs(len(f.F.Code), max(funs, dats))
		p.Funs = append(p.Funs, f)
	}
	for range dats {
		d := api.Dat{D: api.Data{Kind: c.next(9)}}
		for range c.next(6) {
			d.D.Words = append(d.D.Words, int64(c.next(100)-50))
		}
		d.Refs = c.refs(len(d.D.Words), funs)
		p.Dats = append(p.Dats, d)
	}
	return p
}

// plan is any, perhaps of fewer functions, or of more.
func (c *chance) plan(p api.Program) api.Plan {
	many := func() int { return max(0, len(p.Funs)+c.one(0, 0, 0, -1, -2, 1, 5)) }
	plan := api.Plan{Kept: make([]bool, many()), Checks: make([]int, many())}
	for i := range plan.Kept {
		plan.Kept[i] = c.next(4) > 0
	}
	for i := range plan.Checks {
		plan.Checks[i] = c.next(4)
	}
	return plan
}

// item is an instruction that is laid down, whose N is where a thing is, if what is not 0, and so many more.
type item struct {
	x    api.Instr
	what int
	at   int
}

// What N of an item is.
const (
	asIs   = 0
	ofBody = 1 // where the own code of the function at begins, and N
	ofFun  = 2 // where the function at starts
	ofDat  = 3 // where the data at begin
)

// at is the number at i; -1: there is none.
func at(l []int, i, things int) int {
	if i >= len(l) || l[i] < 0 || l[i] >= things {
		return -1
	}
	return l[i]
}

// laid is an instruction of a function as it is laid down.
func laid(p api.Program, number, i int) item {
	f := p.Funs[number]
	x := f.F.Code[i]
	switch x.Op {
	case 11, 12:
		return item{x, ofBody, number}
	case 24:
		if f.F.Class%2 == 1 {
			x.B = 1
		}
	case 19, 21:
		if n := at(f.Refs, i, len(p.Funs)); n >= 0 {
			x.C = p.Funs[n].F.Class
			return item{x, ofFun, n}
		}
	case 17:
		if n := at(f.Refs, i, len(p.Funs)); n >= 0 {
			return item{x, ofFun, n}
		}
	case 15, 16, 18:
		if n := at(f.Refs, i, len(p.Dats)); n >= 0 {
			return item{x, ofDat, n}
		}
	}
	return item{x, asIs, 0}
}

// layout lays down all code, by items, and tells where functions start, and have their own code.
func layout(p api.Program, plan api.Plan) (items []item, starts, bodies []int) {
	items = []item{{x: api.Instr{Op: 27}}, {x: api.Instr{Op: 28}}}
	for number, f := range p.Funs {
		if number >= len(plan.Kept) || !plan.Kept[number] {
			starts, bodies = append(starts, -1), append(bodies, -1)
			continue
		}
		starts = append(starts, len(items))
		frame := int64(len(f.F.Kinds) + f.F.Pad)
		if number < len(plan.Checks) && plan.Checks[number] != 0 {
			items = append(items, item{x: api.Instr{Op: 25, A: plan.Checks[number], N: frame}})
		}
		items = append(items, item{x: api.Instr{Op: 26, A: len(f.F.Kinds), B: f.F.Class / 2, N: frame}})
		bodies = append(bodies, len(items))
		for i := range f.F.Code {
			items = append(items, laid(p, number, i))
		}
	}
	return items, starts, bodies
}

// oracle lays down code, and words, and then looks where things are.
func oracle(p api.Program, plan api.Plan) ([]api.Instr, []int64) {
	items, starts, bodies := layout(p, plan)
	var l []int64
	var addrs []int
	for _, d := range p.Dats {
		addrs = append(addrs, len(l))
		l = append(l, int64(len(d.D.Words)))
		for i, word := range d.D.Words {
			n := at(d.Refs, i, len(p.Funs))
			switch {
			case n >= 0:
				l = append(l, int64(max(0, starts[n])))
			case i < len(d.Refs) && d.Refs[i] == -1:
				l = append(l, word)
			default:
				l = append(l, 0)
			}
		}
	}
	var out []api.Instr
	for _, x := range items {
		switch x.what {
		case ofBody:
			x.x.N += int64(bodies[x.at])
		case ofFun:
			x.x.N = int64(starts[x.at])
		case ofDat:
			x.x.N = int64(addrs[x.at])
		}
		out = append(out, x.x)
	}
	return out, l
}

// P32.1: many programs and plans, held against the oracle.
func TestMany(t *testing.T) {
	c := chance(32)
	seen := map[string]int{}
	for range 20000 {
		p := c.some()
		plan := c.plan(p)
		want, wantWords := oracle(p, plan)
		code(t, p, plan, want[2:]...)
		words(t, p, plan, wantWords...)
		if t.Failed() {
			return
		}
		seen["instructions"] += len(want)
		seen["words"] += len(wantWords)
		for _, x := range want {
			if x.Op == api.OpCall && x.N == -1 {
				seen["calls of one that is not kept"]++
			}
		}
	}
	for what, least := range map[string]int{"instructions": 100000, "words": 100000, "calls of one that is not kept": 500} {
		if seen[what] < least {
			t.Errorf("%s: %d", what, seen[what])
		}
	}
}

// P32.2: there is as much code, and there are as many words, as layer 29 tells, with each plan; each instruction is that of its function, but for N, C and B.
func TestFollows(t *testing.T) {
	c := chance(322)
	for range 5000 {
		p := c.some()
		for range 3 {
			plan := c.plan(p)
			l := patch.Code(p, plan)
			if len(l) != place.Code(p, plan) || len(patch.Words(p, plan)) != place.Words(p) {
				t.Fatalf("%d instructions, %d words; want %d, %d", len(l), len(patch.Words(p, plan)), place.Code(p, plan), place.Words(p))
			}
			fns := place.Fns(p, plan)
			for number, start := range place.Starts(p, plan) {
				if start < 0 {
					continue
				}
				fn := fns[0]
				fns = fns[1:]
				own := l[fn.Body:fn.End]
				alike := func(a, b api.Instr) bool { return a.Op == b.Op && a.A == b.A }
				if !slices.EqualFunc(own, p.Funs[number].F.Code, alike) {
					t.Fatalf("%v; want %v", own, p.Funs[number].F.Code)
				}
				if l[fn.Body-1].Op != api.OpEnter || fn.Body-start == 2 && l[start].Op != api.OpCheck {
					t.Fatalf("%v at %d", l[start], start)
				}
			}
		}
	}
}

// P7: each call ends at programs, and plans, of all sorts.
func TestEnds(t *testing.T) {
	for _, n := range numbers() {
		var l []does
		for operation := -1; operation < 31; operation++ {
			l = append(l, does{api.Instr{Op: operation, A: n, B: n, C: n, N: int64(n)}, n})
		}
		f := fun(n, append(l, does{api.Instr{Op: n, A: n, B: n, C: n, N: int64(n)}, n})...)
		f.F.Pad, f.F.Kinds = n, []int{n}
		d := dat([]int64{int64(n), 5, 6}, n, n)
		p := api.Program{Funs: []api.Fun{f, {}, f}, Dats: []api.Dat{d, {}}, Entry: n}
		p.Funs[2].Refs = f.Refs[:7]
		for _, plan := range []api.Plan{{}, keeps(1), keeps(2, n, n), keeps(3, n, 0, n), keeps(7, n, n, n, n, n), {Kept: []bool{false, true}, Checks: []int{n}}} {
			if got, want := len(patch.Code(p, plan)), place.Code(p, plan); got != want {
				t.Errorf("%d instructions; want %d", got, want)
			}
			if got := len(patch.Words(p, plan)); got != 5 {
				t.Errorf("%d words; want 5", got)
			}
		}
	}
}

// P7: many functions, data, and words.
func TestGreat(t *testing.T) {
	const many = 1 << 16
	p := api.Program{Funs: make([]api.Fun, many), Dats: make([]api.Dat, many)}
	p.Funs[0] = fun(0, does{api.Instr{Op: api.OpCall}, many - 1}, does{api.Instr{Op: api.OpLoad}, many - 1})
	p.Dats[0] = dat(make([]int64, many), many-1)
	plan := keeps(many, slices.Repeat([]int{1}, many)...)
	l := patch.Code(p, plan)
	if len(l) != 4+2*many || l[4].N != 2*many+2 || l[5].N != 2*many-1 {
		t.Errorf("%d instructions, %v, %v", len(l), l[4], l[5])
	}
	if w := patch.Words(p, plan); len(w) != 2*many || w[0] != many || w[1] != 2*many+2 || w[2] != 0 {
		t.Errorf("%d words, %v", len(w), w[:3])
	}
}
