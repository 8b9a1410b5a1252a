package live_test

import (
	"fmt"
	"slices"
	"testing"

	"sheerleg/api"
	"sheerleg/live"
)

// chance gives numbers that look as if they hung on nothing, always the same ones.
type chance uint64

func (c *chance) next(n int) int {
	*c = *c*6364136223846793005 + 1442695040888963407
	return int(*c >> 33 % chance(n))
}

// pick is one of l.
func (c *chance) pick(l []int) int {
	return l[c.next(len(l))]
}

// number is mostly one of so many things, or none.
func (c *chance) number(many int) int {
	if c.next(20) == 0 {
		return c.pick(numbers())
	}
	return c.next(many+1) - c.next(2)
}

// does is an instruction of any sort.
func (c *chance) does(funs, dats int) does {
	switch c.next(9) {
	case 0:
		return picks(c.number(dats))
	case 1, 2:
		return takes(c.number(funs))
	case 3, 4:
		return via(c.number(3))
	case 5:
		return calls(c.number(funs))
	case 6:
		return defers(c.number(funs))
	case 7:
		return does{c.pick([]int{api.OpLoad, api.OpStore}), c.number(3), c.number(dats)}
	}
	return does{c.pick(append(numbers(), api.OpNop, api.OpReturn, api.OpEnter, 29)), c.number(3), c.number(funs)}
}

// some is a program of a few classes, in which numbers may be wrong.
func (c *chance) some() api.Program {
	funs, dats := c.next(9), c.next(4)
	p := api.Program{Entry: c.number(funs)}
	for range funs {
		l := make([]does, c.next(6))
		for i := range l {
			l[i] = c.does(funs, dats)
		}
		f := fun(c.number(3), l...)
		if c.next(9) == 0 {
			f.Refs = append(f.Refs, c.number(funs))
		} else if len(l) > 0 && c.next(9) == 0 {
			f.Refs = f.Refs[1:]
		}
		p.Funs = append(p.Funs, f)
	}
	for range dats {
		d := dat(make([]int, c.next(4))...)
		for i := range d.Refs {
			d.Refs[i] = c.number(funs)
		}
		p.Dats = append(p.Dats, d)
	}
	return p
}

// has tells whether the function has an instruction with the operation that refers to the number.
func has(f api.Fun, op, number int) bool {
	for i, x := range f.F.Code {
		if x.Op == op && i < len(f.Refs) && f.Refs[i] == number {
			return true
		}
	}
	return false
}

func callsOracle(f api.Fun, to int) bool {
	return has(f, api.OpCall, to) || has(f, api.OpDefer, to)
}

func takesOracle(p api.Program, f api.Fun, to int) bool {
	for at, d := range p.Dats {
		if has(f, api.OpPick, at) && slices.Contains(d.Refs, to) {
			return true
		}
	}
	return has(f, api.OpFunc, to)
}

// spread marks the first one, if there is such a place, and whom a marked one leads to, until nothing is new.
func spread(many, first int, leads func(from, to int) bool) []bool {
	marks := make([]bool, many)
	if first < 0 || first >= many {
		return marks
	}
	marks[first] = true
	for {
		was := slices.Clone(marks)
		for from := range many {
			for to := range many {
				marks[to] = marks[to] || marks[from] && leads(from, to)
			}
		}
		if slices.Equal(marks, was) {
			return marks
		}
	}
}

// oracle asks of each two functions whether an edge leads from one to the other.
func oracle(p api.Program) answers {
	many := len(p.Funs)
	lives := spread(many, p.Entry, func(from, to int) bool {
		return callsOracle(p.Funs[from], to) || takesOracle(p, p.Funs[from], to)
	})
	taken := make([]bool, many)
	for from := range many {
		for to := range many {
			taken[to] = taken[to] || lives[from] && takesOracle(p, p.Funs[from], to)
		}
	}
	isEdge := func(from, to int) bool {
		class := p.Funs[to].F.Class
		goes := slices.ContainsFunc(p.Funs[from].F.Code, func(x api.Instr) bool { return x.Op == api.OpVia && x.C == class && class >= 0 && class < 8 })
		return lives[from] && (callsOracle(p.Funs[from], to) || goes && taken[to])
	}
	g := make([][]int, many)
	for from := range many {
		for to := range many {
			if isEdge(from, to) {
				g[from] = append(g[from], to)
			}
		}
	}
	return answers{marked(lives), marked(taken), marked(spread(many, p.Entry, isEdge)), g}
}

// P26.1: many programs, held against the oracle; none is changed.
func TestMany(t *testing.T) {
	c := chance(26)
	seen := map[string]int{}
	for range 20000 {
		p := c.some()
		was := fmt.Sprint(p)
		want := oracle(p)
		holds(t, p, want)
		if now := fmt.Sprint(p); now != was {
			t.Errorf("%v came to be %v", was, now)
		}
		if t.Failed() {
			return
		}
		seen["live"] += len(want.live)
		seen["dead"] += len(p.Funs) - len(want.live)
		seen["taken"] += len(want.taken)
		seen["called"] += len(want.called)
		seen["live, not called"] += len(want.live) - len(want.called)
		for _, l := range want.graph {
			seen["edges"] += len(l)
		}
	}
	for _, what := range []string{"live", "dead", "taken", "called", "live, not called", "edges"} {
		if seen[what] < 5000 {
			t.Errorf("%s: %d", what, seen[what])
		}
	}
}

// P26.2: what is taken, or called, is live; edges lead from live ones to live ones.
func TestFollows(t *testing.T) {
	c := chance(262)
	for range 5000 {
		p := c.some()
		lives := live.Live(p)
		for at, is := range live.Taken(p) {
			if is && !lives[at] {
				t.Fatalf("%d is taken in %+v", at, p)
			}
		}
		for at, is := range live.Called(p) {
			if is && !lives[at] {
				t.Fatalf("%d is called in %+v", at, p)
			}
		}
		for from, l := range live.Graph(p) {
			for _, to := range l {
				if !lives[from] || !lives[to] {
					t.Fatalf("an edge leads from %d to %d in %+v", from, to, p)
				}
			}
		}
	}
}

// P26.1: the order of a function's instructions turns nothing.
func TestOrder(t *testing.T) {
	c := chance(261)
	for range 2000 {
		p := c.some()
		for i, f := range p.Funs {
			f.Refs = append(f.Refs, -1)[:len(f.F.Code)]
			p.Funs[i] = f
		}
		want := oracle(p)
		for _, f := range p.Funs {
			slices.Reverse(f.F.Code)
			slices.Reverse(f.Refs)
		}
		holds(t, p, want)
		if t.Failed() {
			return
		}
	}
	p := play(t)
	want := oracle(p)
	for _, f := range p.Funs {
		slices.Reverse(f.F.Code)
		slices.Reverse(f.Refs)
	}
	holds(t, p, want)
}

// fill writes over all of l, up to its capacity.
func fill[T any](l []T, x T) {
	l = l[:cap(l)]
	for i := range l {
		l[i] = x
	}
}

// The rules: what is answered shares no memory with the program, or with a later answer.
func TestShares(t *testing.T) {
	for _, call := range []func(p api.Program) []bool{live.Live, live.Taken, live.Called} {
		p := play(t)
		first, second := call(p), call(p)
		want := fmt.Sprint(second)
		fill(first, true)
		if third := call(p); fmt.Sprint(second) != want || fmt.Sprint(third) != want {
			t.Errorf("%v, %v; want %s", second, third, want)
		}
		fill(p.Funs, api.Fun{})
		if fmt.Sprint(second) != want {
			t.Errorf("%v; want %s", second, want)
		}
	}
}

// The rules: the call graph's lists share no memory with the program, with a later answer, or with one another.
func TestGraphShares(t *testing.T) {
	p := play(t)
	was := fmt.Sprint(p)
	first, second := live.Graph(p), live.Graph(p)
	want := fmt.Sprint(second)
	for i, l := range first {
		others := slices.Delete(slices.Clone(first), i, i+1)
		other := fmt.Sprint(others)
		fill(l, 77)
		if fmt.Sprint(others) != other {
			t.Errorf("the list %d of %s shares memory", i, want)
		}
	}
	clear(first)
	if now := fmt.Sprint(p); now != was {
		t.Errorf("%s came to be %s", was, now)
	}
	if third := live.Graph(p); fmt.Sprint(second) != want || fmt.Sprint(third) != want {
		t.Errorf("%v, %v; want %s", second, third, want)
	}
	for _, f := range p.Funs {
		fill(f.Refs, 77)
		fill(f.F.Code, api.Instr{Op: 77})
	}
	for _, d := range p.Dats {
		fill(d.Refs, 77)
	}
	fill(p.Funs, api.Fun{})
	if fmt.Sprint(second) != want {
		t.Errorf("%v; want %s", second, want)
	}
}

// P7: each call ends at programs of all sorts.
func TestEnds(t *testing.T) {
	operations := append(numbers(), api.OpLoad, api.OpStore, api.OpFunc, api.OpPick, api.OpCall, api.OpVia, api.OpDefer, api.OpReturn, api.OpDriver, 29)
	for _, op := range operations {
		for _, n := range numbers() {
			f := fun(n, does{op, n, n})
			f.F.Kinds, f.F.Pad, f.F.From, f.F.To, f.F.Relocs = []int{n}, n, n, n, []api.Reloc{{At: n, Sym: n}}
			long, bare := f, f
			long.Refs, bare.Refs = []int{n, n, n}, nil
			for _, p := range []api.Program{{Funs: []api.Fun{f}, Entry: n}, {Funs: []api.Fun{f, f}, Dats: []api.Dat{dat(n)}}, {Funs: []api.Fun{{}, long}, Dats: []api.Dat{{}, dat(n)}, Entry: 1}, {Funs: []api.Fun{bare}, Entry: n}, {Dats: []api.Dat{dat(n)}, Entry: n}} {
				holds(t, p, oracle(p))
			}
		}
	}
}

// P7: a long way of calls, and as many edges as there may be among many functions.
func TestGreat(t *testing.T) {
	const many = 20000
	p := api.Program{Funs: make([]api.Fun, many)}
	all := make([]int, many)
	want := answers{live: all, called: all, graph: make([][]int, many)}
	for i := range many {
		all[i] = i
		p.Funs[i] = fun(0, calls(i+1))
		want.graph[i] = []int{i + 1}
	}
	want.graph[many-1] = nil
	holds(t, p, want)
	const wide = 600
	p.Funs = p.Funs[:wide]
	for i := range wide {
		p.Funs[i] = fun(7, via(7), takes((i+1)%wide))
		want.graph[i] = all[:wide]
	}
	holds(t, p, answers{all[:wide], all[:wide], all[:wide], want.graph[:wide]})
}
