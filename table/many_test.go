package table_test

import (
	"slices"
	"testing"

	"sheerleg/api"
	"sheerleg/asm"
	"sheerleg/bind"
	"sheerleg/elide"
	"sheerleg/line"
	"sheerleg/prologue"
	"sheerleg/runs"
	"sheerleg/table"
)

// chance gives numbers that look as if they hung on nothing, always the same ones.
type chance uint64

func (c *chance) next(n int) int {
	*c = *c*6364136223846793005 + 1442695040888963407
	return int(*c >> 33 % chance(n))
}

// one is one of the numbers.
func (c *chance) one(l ...int) int {
	return l[c.next(len(l))]
}

// some is a program of a few functions, with ranges and lines that may be anywhere.
func (c *chance) some() api.Program {
	var p api.Program
	for at := range c.next(7) {
		f := fun(c.next(7))
		f.File, f.Item = 100-at, at
		f.F.Kinds, f.F.Pad, f.F.Nosplit = make([]int, c.next(4)), c.one(0, 0, 7, -3, 4096), c.next(2) == 0
		f.F.From, f.F.To = c.next(8)-1, c.next(9)-1
		place := c.one(0, 0, 0, 1, -2)
		for range c.next(5) {
			f.F.Lines = append(f.F.Lines, api.Line{At: place, Line: c.next(3)})
			place += c.next(3)
		}
		p.Funs = append(p.Funs, f)
	}
	return p
}

// plan is any, perhaps of fewer functions, or of more.
func (c *chance) plan(p api.Program) api.Plan {
	many := func() int { return max(0, len(p.Funs)+c.one(0, 0, 0, -1, -2, 1, 5)) }
	plan := api.Plan{Kept: make([]bool, many()), Checks: make([]int, many())}
	for i := range plan.Kept {
		plan.Kept[i] = c.next(4) > 0
	}
	for i := range plan.Checks {
		plan.Checks[i] = c.next(4)
	}
	return plan
}

// spot is what stands at a place: the i-th instruction of the function at, or, with at below 0, none of a function's own; number is what tables call the function.
type spot struct {
	at, i, number int
	first         bool // the first one of a function
}

// laid lays down the code, place by place.
func laid(p api.Program, plan api.Plan) []spot {
	l := []spot{{at: -1}, {at: -1}}
	number := 0
	for at, f := range p.Funs {
		if at >= len(plan.Kept) || !plan.Kept[at] {
			continue
		}
		number++
		if at < len(plan.Checks) && plan.Checks[at] != 0 {
			l = append(l, spot{-1, 0, number, true}, spot{-1, 0, number, false})
		} else {
			l = append(l, spot{-1, 0, number, true})
		}
		for i := range f.F.Code {
			l = append(l, spot{at, i, number, false})
		}
	}
	return l
}

// lineOf looks for the line from the back on, among those that count at i.
func lineOf(l []api.Line, i int) int {
	for n := len(l) - 1; n >= 0; n-- {
		if !slices.ContainsFunc(l[:n+1], func(x api.Line) bool { return x.At > i }) {
			return l[n].Line
		}
	}
	return 0
}

// oracle is the rows of what is laid down, but those of bottom and driver.
func oracle(p api.Program, plan api.Plan) []api.Row {
	var l []api.Row
	for _, x := range laid(p, plan)[2:] {
		row := api.Row{Fn: x.number}
		if x.at >= 0 {
			f := p.Funs[x.at].F
			row.Frame = len(f.Kinds) + max(0, f.Pad)
			row.Defer = !(x.i < f.From) && !(x.i >= f.To)
			row.Line = lineOf(f.Lines, x.i)
		}
		l = append(l, row)
	}
	return l
}

// P33.1: many programs and plans, held against the oracle.
func TestMany(t *testing.T) {
	c := chance(33)
	seen := map[string]int{}
	for range 20000 {
		p := c.some()
		plan := c.plan(p)
		want := oracle(p, plan)
		rows(t, p, plan, want...)
		made(t, p, plan, runs.Make(append(make([]api.Row, 2), want...))...)
		if t.Failed() {
			return
		}
		for _, row := range want {
			seen["rows"]++
			if row.Defer {
				seen["in a range"]++
			}
			if row.Line > 0 {
				seen["of a line"]++
			}
			if row.Frame > 0 {
				seen["with a frame"]++
			}
		}
		seen["runs"] += len(table.Make(p, plan))
	}
	for _, what := range []string{"rows", "in a range", "of a line", "with a frame", "runs"} {
		if seen[what] < 10000 {
			t.Errorf("%s: %d", what, seen[what])
		}
	}
}

// text is that of a module that may be, of a few functions that defer, call one another, and have lines.
func (c *chance) text() string {
	const names = "abcd"
	s := "proc main f0\nslots n\n"
	many := c.next(len(names) + 1)
	for at := range 1 + many {
		if at > 0 {
			s += "proc " + names[at-1:at] + " f0\npad " + line.Decimal(int64(c.one(0, 3, 9, 70))) + "\n"
			s += "range 0 4\nslots n n\n"
		}
		for range 3 {
			if c.next(2) == 0 {
				s += "line " + line.Decimal(int64(c.next(9))) + "\n"
			}
			callee := "main"
			if many > 0 && c.next(4) > 0 {
				n := c.next(many)
				callee = names[n : n+1]
			}
			s += []string{"call 0 @" + callee, "out 0", "in 0"}[c.next(3)] + "\n"
			if at > 0 && c.next(3) == 0 {
				s += "defer 0 @" + callee + "\nreturn 0\n"
				break
			}
		}
		s += "return 0\n"
	}
	return s
}

// P33.2: what the table says of each place is what the function's own tables say of the instruction, of programs that are bound, with each of layer 28's, and layer 31's, plans.
func TestFollows(t *testing.T) {
	c := chance(332)
	done, pending := 0, 0
	for range 3000 {
		s := c.text()
		o, _, e := asm.Parse(s)
		if e != api.OK {
			continue
		}
		p, r := bind.Bind([]api.Object{o}, "main")
		if r.Why != api.OK {
			t.Fatalf("%v of\n%s", r, s)
		}
		for _, plan := range []api.Plan{prologue.Full(p), elide.Plan(p)} {
			l := table.Make(p, plan)
			want := oracle(p, plan)
			if e := runs.Check(l, 2+len(want)); e != api.OK {
				t.Fatalf("%v of\n%s", e, s)
			}
			for at, row := range want {
				if got, ok := runs.At(l, 2+at); !ok || got != row {
					t.Fatalf("%v at %d of\n%s; want %v", got, 2+at, s, row)
				}
				if row.Defer {
					pending++
				}
			}
			done++
		}
	}
	if done < 2000 || pending < 2000 {
		t.Errorf("%d tables, %d places at which calls may be pending", done, pending)
	}
}

// P7: each call ends at programs, and plans, of all sorts.
func TestEnds(t *testing.T) {
	for _, n := range numbers() {
		f := api.Fun{File: n, Item: n, F: api.Func{Class: n, Kinds: []int{n}, Pad: n, From: n, To: -n, Lines: []api.Line{{At: n, Line: n}, {At: -n, Line: n}}, Code: []api.Instr{{Op: n, A: n, B: n, C: n, N: int64(n)}}, Relocs: []api.Reloc{{At: n, Sym: n}}}, Refs: []int{n, n}}
		p := api.Program{Funs: []api.Fun{f, {}, f}, Dats: []api.Dat{{Refs: []int{n}}}, Entry: n}
		for _, kept := range []string{"", "k", "-k", "kk", "kkk", "kkkkk"} {
			for _, checks := range [][]int{nil, {}, {n}, {n, n, n, n}} {
				plan := keeps(kept, checks...)
				want := 2
				for at := range p.Funs {
					want += prologue.Size(p, plan, at)
				}
				if got := table.Rows(p, plan); len(got) != want {
					t.Errorf("%d rows; want %d", len(got), want)
				}
				if got := table.Make(p, plan); runs.Check(got, want) != api.OK {
					t.Errorf("%v of %d", got, want)
				}
			}
		}
	}
}
