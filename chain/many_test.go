package chain_test

import (
	"fmt"
	"slices"
	"testing"

	"sheerleg/api"
	"sheerleg/chain"
	"sheerleg/live"
)

// chance gives numbers that look as if they hung on nothing, always the same ones.
type chance uint64

func (c *chance) next(n int) int {
	*c = *c*6364136223846793005 + 1442695040888963407
	return int(*c >> 33 % chance(n))
}

// number is mostly one of so many things, or none.
func (c *chance) number(many int) int {
	if c.next(20) == 0 {
		return numbers()[c.next(len(numbers()))]
	}
	return c.next(many+1) - c.next(2)
}

// callee is mostly one behind a function, so that there are programs without a circle.
func (c *chance) callee(at, many int) int {
	if c.next(12) == 0 {
		return c.number(many)
	}
	return at + 1 + c.next(max(1, many-at))
}

func (c *chance) does(at, many int) does {
	switch c.next(8) {
	case 0:
		return takes(c.callee(at, many))
	case 2:
		return via(c.next(4) - 1)
	case 3:
		return defers(c.callee(at, many))
	case 4:
		return does{c.number(30), c.next(3), c.callee(at, many)}
	}
	return calls(c.callee(at, many))
}

// some is a program in which frames are mostly so that chains come near to Limit.
func (c *chance) some() api.Program {
	many := c.next(11)
	l := make([]api.Fun, many)
	for at := range l {
		instructions := make([]does, 1+c.next(5))
		for i := range instructions {
			instructions[i] = c.does(at, many)
		}
		l[at] = of(c.next(3), fun(c.next(20), instructions...))
		if c.next(9) == 0 {
			l[at].F.Pad = c.number(60)
		}
		l[at].F.Nosplit = c.next(2) == 0
		l[at].F.Kinds = make([]int, c.next(3))
	}
	p := program(l...)
	if c.next(8) == 0 {
		p.Entry = c.number(many)
	}
	return p
}

// free are marks, mostly as many as there are functions.
func (c *chance) free(many int) []bool {
	if c.next(4) == 0 {
		many = max(0, many+c.next(5)-2)
	}
	l := make([]bool, many)
	often := 2 + c.next(4)
	for i := range l {
		l[i] = c.next(5) < often
	}
	return l
}

// asked is what is asked, with what layer 26 says of it.
type asked struct {
	p      api.Program
	free   []bool
	graph  [][]int
	called []bool
}

func ask(p api.Program, free []bool) asked {
	return asked{p, free, live.Graph(p), live.Called(p)}
}

func (x asked) isFree(at int) bool {
	return x.called[at] && at < len(x.free) && x.free[at]
}

// isOnCircle goes over free ones until nothing is new.
func (x asked) isOnCircle(at int) bool {
	if !x.isFree(at) {
		return false
	}
	been := map[int]int{}
	open := []int{at}
	for len(open) > 0 {
		from := open[0]
		open = open[1:]
		for _, to := range x.graph[from] {
			if to == at {
				return true
			}
			if been[to] == 0 && x.isFree(to) {
				been[to] = 1
				open = append(open, to)
			}
		}
	}
	return false
}

// firstOnCircle is the first free one that is on a circle; -1: there is none.
func (x asked) firstOnCircle() int {
	for at := range x.p.Funs {
		if x.isOnCircle(at) {
			return at
		}
	}
	return -1
}

// need goes all ways from at on, of which none is a circle.
func (x asked) need(at int) int {
	if !x.isFree(at) {
		return 1
	}
	return own(x.p.Funs[at].F) + x.call(at)
}

// own is how much a free function that calls nobody needs: its frame, which layer 12 counts as at most 2^20.
func own(f api.Func) int {
	frame := len(f.Kinds) + max(0, min(f.Pad, 1<<20))
	return max(1, min(frame, 1<<20))
}

// call is the greatest of what calls of at need: none, if it calls nobody.
func (x asked) call(at int) int {
	most := 0
	for _, to := range x.graph[at] {
		most = max(most, 1+x.need(to))
	}
	return most
}

// reject is what Check is to answer.
func (x asked) reject() api.Reject {
	if x.p.Entry < 0 || x.p.Entry >= len(x.p.Funs) {
		return nowhere(api.ErrArg)
	}
	if on := x.firstOnCircle(); on >= 0 {
		return at(x.p, api.ErrCycle, on)
	}
	if 1+x.need(x.p.Entry) > 56 {
		return nowhere(api.ErrDeep)
	}
	for from := range x.p.Funs {
		if x.called[from] && !x.isFree(from) && x.call(from) > 56 {
			return at(x.p, api.ErrDeep, from)
		}
	}
	return api.Reject{}
}

// way goes, as long as it is at a free one that calls, to the end that needs most, the least of several.
func (x asked) way(at int) []int {
	l := []int{at}
	for x.isFree(at) && len(x.graph[at]) > 0 {
		most := x.call(at)
		next := slices.IndexFunc(x.graph[at], func(to int) bool { return 1+x.need(to) == most })
		at = x.graph[at][next]
		l = append(l, at)
	}
	return l
}

// holds holds all calls to what they answer, and tells what Check did.
func (x asked) holds(t *testing.T) api.Errno {
	t.Helper()
	var want []int
	circle := x.firstOnCircle() >= 0
	if !circle {
		want = []int{}
		for at := range x.p.Funs {
			want = append(want, x.need(at))
		}
	}
	needs(t, x.p, x.free, want)
	reject := x.reject()
	check(t, x.p, x.free, reject)
	for at := range x.p.Funs {
		if circle {
			way(t, x.p, x.free, at)
		} else {
			way(t, x.p, x.free, at, x.way(at)...)
		}
	}
	way(t, x.p, x.free, -1)
	way(t, x.p, x.free, len(x.p.Funs))
	return reject.Why
}

// P27.1 to P27.3: many programs, held against the oracle; nothing that is handed in is changed.
func TestMany(t *testing.T) {
	c := chance(27)
	seen := map[api.Errno]int{}
	for range 20000 {
		p := c.some()
		free := c.free(len(p.Funs))
		was := fmt.Sprint(p, free)
		seen[ask(p, free).holds(t)]++
		if l := chain.Nosplit(p); !slices.EqualFunc(l, p.Funs, func(is bool, f api.Fun) bool { return is == f.F.Nosplit }) {
			t.Errorf("Nosplit(%+v) = %v", p, l)
		}
		if now := fmt.Sprint(p, free); now != was {
			t.Errorf("%v came to be %v", was, now)
		}
		if t.Failed() {
			return
		}
	}
	for _, e := range []api.Errno{api.OK, api.ErrArg, api.ErrCycle, api.ErrDeep} {
		if seen[e] < 500 {
			t.Errorf("%v: %d", e, seen[e])
		}
	}
}

// P27.3: what the functions on a way write, each with what its call does, is what the first one needs.
func TestWayNeeds(t *testing.T) {
	c := chance(273)
	long := 0
	for range 5000 {
		p := c.some()
		x := ask(p, c.free(len(p.Funs)))
		l, ok := chain.Needs(p, x.free)
		for at := range l {
			sum := -1
			w := chain.Way(p, x.free, at)
			for i, n := range w {
				sum += 1 + 1
				if x.isFree(n) {
					sum += own(p.Funs[n].F) - 1
				}
				if i > 0 && !slices.Contains(x.graph[w[i-1]], n) || i > 0 && !x.isFree(w[i-1]) {
					t.Fatalf("%d does not call %d without a check: %v of %+v, %v", w[i-1], n, w, p, x.free)
				}
			}
			if !ok || w[0] != at || sum != l[at] {
				t.Fatalf("Way(%+v, %v, %d) = %v needs %d; want %d", p, x.free, at, w, sum, l[at])
			}
			if len(w) > 2 {
				long++
			}
		}
	}
	if long < 500 {
		t.Errorf("long ways: %d", long)
	}
}

// P27.4: with one free one fewer no circle comes to be, no function needs more, and no chain becomes too deep.
func TestFewer(t *testing.T) {
	c := chance(274)
	fewer := 0
	for range 8000 {
		p := c.some()
		free := c.free(len(p.Funs))
		l, ok := chain.Needs(p, free)
		r := chain.Check(p, free)
		for i := range free {
			if !free[i] {
				continue
			}
			free[i] = false
			less, is := chain.Needs(p, free)
			if ok && !is {
				t.Fatalf("%+v: without %d a circle comes to be: %v", p, i, free)
			}
			for at := range l {
				if less[at] > l[at] {
					t.Fatalf("%+v, %v: without %d: %v; with it: %v", p, free, i, less, l)
				}
			}
			if now := chain.Check(p, free); r.Why == api.OK && now.Why != api.OK || r.Why == api.ErrDeep && now.Why == api.ErrCycle {
				t.Fatalf("%+v, %v: without %d: %v; with it: %v", p, free, i, now, r)
			}
			free[i] = true
			fewer++
		}
	}
	if fewer < 5000 {
		t.Errorf("%d", fewer)
	}
}

// fill writes over all of l, up to its capacity.
func fill[T any](l []T, x T) {
	l = l[:cap(l)]
	for i := range l {
		l[i] = x
	}
}

// The rules: what is answered shares no memory with what is handed in, or with a later answer.
func TestShares(t *testing.T) {
	p := program(fun(5, calls(1), takes(3), via(3)), fun(6, calls(2)), fun(7), of(3, fun(8)))
	for i := range p.Funs {
		p.Funs[i].F.Nosplit = i%2 == 0
	}
	free := marks("ffff")
	was := fmt.Sprint(p, free)
	needs := func() []int { l, _ := chain.Needs(p, free); return l }
	ways := func() []int { return chain.Way(p, free, 0) }
	for _, call := range []func() []int{needs, ways} {
		first, second := call(), call()
		want := fmt.Sprint(second)
		fill(append(first, 77), 78)
		fill(first, 79)
		if third := call(); fmt.Sprint(second) != want || fmt.Sprint(third) != want {
			t.Errorf("%v, %v; want %s", second, third, want)
		}
	}
	first, second := chain.Nosplit(p), chain.Nosplit(p)
	want := fmt.Sprint(second)
	fill(first, true)
	if third := chain.Nosplit(p); fmt.Sprint(second) != want || fmt.Sprint(third) != want {
		t.Errorf("%v, %v; want %s", second, third, want)
	}
	if now := fmt.Sprint(p, free); now != was {
		t.Errorf("%s came to be %s", was, now)
	}
	// What is handed in is not kept.
	l, w := needs(), ways()
	wants := fmt.Sprint(l, w, second)
	clear(free)
	fill(p.Funs[0].Refs, 77)
	fill(p.Funs, api.Fun{})
	if now := fmt.Sprint(l, w, second); now != wants {
		t.Errorf("%s came to be %s", wants, now)
	}
	if l := chain.Nosplit(p); slices.Contains(l, true) {
		t.Errorf("%v is kept", l)
	}
}

// P7: each call ends at programs of all sorts.
func TestEnds(t *testing.T) {
	operations := append(numbers(), api.OpFunc, api.OpPick, api.OpCall, api.OpVia, api.OpDefer, api.OpReturn, api.OpDriver, 29)
	for _, op := range operations {
		for _, n := range numbers() {
			f := of(n, fun(n, does{op, n, n}))
			f.F.Kinds, f.F.From, f.F.To, f.F.Relocs, f.File, f.Item = []int{n}, n, n, []api.Reloc{{At: n, Sym: n}}, n, n
			long, bare := f, f
			long.Refs, bare.Refs = []int{n, n, n}, nil
			dats := []api.Dat{{}, {D: api.Data{Kind: n, Words: []int64{0}}, Refs: []int{n}}}
			for _, p := range []api.Program{{Funs: []api.Fun{f}, Entry: n}, {Funs: []api.Fun{f, f}, Dats: dats}, {Funs: []api.Fun{{}, long}, Dats: dats, Entry: 1}, {Funs: []api.Fun{bare}, Entry: n}, {Dats: dats, Entry: n}} {
				for _, free := range [][]bool{nil, marks("f"), marks("ff"), marks("-ff")} {
					ask(p, free).holds(t)
				}
			}
		}
	}
}

// P7: a long way of calls, a long circle, and as many edges as there may be among many functions.
func TestGreat(t *testing.T) {
	const many = 20000
	p := program(make([]api.Fun, many)...)
	want, all, free := make([]int, many), make([]int, many), slices.Repeat([]bool{true}, many)
	for i := range many {
		p.Funs[i] = fun(3, calls(i+1))
		want[i], all[i] = 4*(many-i)-1, i
	}
	needs(t, p, free, want)
	check(t, p, free, nowhere(api.ErrDeep))
	way(t, p, free, 0, all...)
	p.Funs[many-1] = fun(3, calls(7))
	p.Funs[7].File, p.Funs[7].Item = 3, 4
	needs(t, p, free, nil)
	check(t, p, free, api.Reject{Why: api.ErrCycle, File: 3, Item: 4})
	way(t, p, free, 0)
	const wide = 500
	p.Funs = p.Funs[:wide]
	for i := range wide {
		p.Funs[i] = of(7, fun(0, via(7), takes((i+1)%wide)))
		want[i] = 1
	}
	needs(t, p, nil, want[:wide])
	check(t, p, nil, api.Reject{})
	check(t, p, free, api.Reject{Why: api.ErrCycle})
}
