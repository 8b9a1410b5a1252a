package cycle_test

import (
	"math"
	"slices"
	"testing"

	"sheerleg/cycle"
	"sheerleg/digraph"
)

// chance gives numbers that look as if they hung on nothing, always the same ones.
type chance uint64

func (c *chance) next(n int) int {
	*c = *c*6364136223846793005 + 1442695040888963407
	return int(*c >> 33 % chance(n))
}

// noPlaces are numbers of no place of a graph of n places.
func noPlaces(n int) []int {
	return []int{math.MinInt, math.MinInt + 1, -1 << 32, -n - 1, -n, -2, -1, n, n + 1, 2 * n, 1 << 31, 1 << 32, 1<<32 + 1, math.MaxInt - 1, math.MaxInt}
}

// tidy is a graph of all those edges, as bits of places: of from to to the bit from times n and to.
func tidy(n int, edges uint64) [][]int {
	g := make([][]int, n)
	for from := range n {
		for to := range n {
			if edges>>(from*n+to)&1 == 1 {
				g[from] = append(g[from], to)
			}
		}
	}
	return g
}

// untidy is a graph with the same edges, some of them twice, in another order, and with some that lead to no place.
func untidy(g [][]int, c *chance) [][]int {
	none := noPlaces(len(g))
	h := make([][]int, len(g))
	for from, l := range g {
		for range c.next(3) {
			h[from] = append(h[from], none[c.next(len(none))])
		}
		for _, to := range l {
			for range 1 + c.next(2) {
				h[from] = append(h[from], to)
			}
		}
		for i := range h[from] {
			j := c.next(i + 1)
			h[from][i], h[from][j] = h[from][j], h[from][i]
		}
	}
	return h
}

// members is a list of so many, as bits of places.
func members(n int, bits uint64) []bool {
	in := make([]bool, n)
	for at := range n {
		in[at] = bits>>at&1 == 1
	}
	return in
}

// all makes each of n places a member.
func all(n int) []bool {
	return slices.Repeat([]bool{true}, n)
}

func isMember(in []bool, at int) bool {
	return at >= 0 && at < len(in) && in[at]
}

// leads tells whether an edge that counts leads from one place to another.
func leads(g [][]int, in []bool, from, to int) bool {
	return from >= 0 && from < len(g) && to >= 0 && to < len(g) && isMember(in, from) && isMember(in, to) && slices.Contains(g[from], to)
}

// onOracle closes the edges that count.
func onOracle(g [][]int, in []bool) []int {
	n := len(g)
	ways := make([][]bool, n)
	for from := range n {
		ways[from] = make([]bool, n)
		for to := range n {
			ways[from][to] = leads(g, in, from, to)
		}
	}
	for over := range n {
		for from := range n {
			for to := range n {
				ways[from][to] = ways[from][to] || ways[from][over] && ways[over][to]
			}
		}
	}
	var on []int
	for at := range n {
		if ways[at][at] {
			on = append(on, at)
		}
	}
	return on
}

// orderOracle tries all lists of the members, the lesser place first; back: each edge leads from one behind to one ahead.
func orderOracle(g [][]int, in []bool, back bool) ([]int, bool) {
	want := 0
	for at := range g {
		if isMember(in, at) {
			want++
		}
	}
	return longer(g, in, back, nil, want)
}

// longer is the first order of so many that begins so.
func longer(g [][]int, in []bool, back bool, order []int, want int) ([]int, bool) {
	if len(order) == want {
		return order, true
	}
	for next := range g {
		if !isMember(in, next) || slices.Contains(order, next) {
			continue
		}
		fits := func(ahead int) bool {
			if back {
				return !leads(g, in, ahead, next)
			}
			return !leads(g, in, next, ahead)
		}
		with := append(slices.Clone(order), next)
		if slices.ContainsFunc(with, func(ahead int) bool { return !fits(ahead) }) {
			continue
		}
		if found, ok := longer(g, in, back, with, want); ok {
			return found, true
		}
	}
	return nil, false
}

func copied(g [][]int) [][]int {
	var h [][]int
	for _, l := range g {
		h = append(h, slices.Clone(l))
	}
	return h
}

func same(g, h [][]int) bool {
	return slices.EqualFunc(g, h, slices.Equal[[]int])
}

// graphs tells each graph of up to three places with each list of members, some that are shorter, or longer, and some greater ones; untidy.
func graphs(tell func(g [][]int, in []bool)) {
	c := chance(11)
	for n := range 4 {
		for edges := range uint64(1) << (n * n) {
			g := tidy(n, edges)
			for long := range n + 3 {
				for bits := range uint64(1) << min(long, n) {
					tell(untidy(g, &c), members(long, bits|math.MaxUint64<<n))
				}
			}
		}
	}
	for i := range 3000 {
		n := 4 + i%3
		edges := uint64(0)
		for range c.next(2 * n) {
			edges |= 1 << c.next(n*n)
		}
		in := members(n-1+c.next(3), uint64(c.next(1<<n))|uint64(c.next(1<<n)))
		tell(untidy(tidy(n, edges), &c), in)
	}
}

// P11.1, written out.
func TestOnNamed(t *testing.T) {
	for _, x := range []struct {
		g    [][]int
		in   []bool
		want []int
	}{
		// No places, no members, no edges.
		{nil, nil, nil},
		{[][]int{}, []bool{true, true}, nil},
		{nil, []bool{true}, nil},
		{[][]int{{0}}, nil, nil},
		{[][]int{nil, {}}, all(2), nil},
		// From a place to itself; twice; and to what is no place.
		{[][]int{{0}}, all(1), []int{0}},
		{[][]int{{0}}, []bool{false}, nil},
		{[][]int{{0, 0}, {1, -1}, {}}, all(3), []int{0, 1}},
		{[][]int{{1, 1, 7, -1}, {2, 3}, {math.MinInt, math.MaxInt}}, all(3), nil},
		{[][]int{{1}}, []bool{true, true}, nil},
		{[][]int{{-1}}, []bool{true, true}, nil},
		// Circles of two, and of many; what leads to them, and away.
		{[][]int{{1}, {0}}, all(2), []int{0, 1}},
		{[][]int{{1, 1}, {0, 0, 0}}, all(2), []int{0, 1}},
		{[][]int{{1}, {2}, {1}}, all(3), []int{1, 2}},
		{[][]int{{1}, {0, 2}, {}}, all(3), []int{0, 1}},
		{[][]int{{3}, {4}, {1}, {2}, {0}}, all(5), []int{0, 1, 2, 3, 4}},
		{[][]int{{1}, {0, 2}, {3}, {4}, {3}}, all(5), []int{0, 1, 3, 4}},
		{[][]int{{4}, {3}, {}, {1}, {0, 2}}, all(5), []int{0, 1, 3, 4}},
		{[][]int{{1}, {2}, {0, 3}, {4}, {5}, {5}}, all(6), []int{0, 1, 2, 5}},
		// Two circles that share a place.
		{[][]int{{1, 2}, {0}, {3}, {0}, {0}}, all(5), []int{0, 1, 2, 3}},
		// Ways that part, and meet: no circle.
		{[][]int{{1, 2}, {3}, {3}, {}}, all(4), nil},
		// Through a place that is no member; and round it.
		{[][]int{{1}, {0}}, []bool{true, false}, nil},
		{[][]int{{1}, {0}}, []bool{false, true}, nil},
		{[][]int{{1}, {2}, {0}}, []bool{true, false, true}, nil},
		{[][]int{{1, 2}, {2}, {0}}, []bool{true, false, true}, []int{0, 2}},
		{[][]int{{1}, {1}, {1}}, []bool{true, false, true}, nil},
		// Members beyond the list, and beyond the graph.
		{[][]int{{1}, {0}}, []bool{true}, nil},
		{[][]int{{0}, {1}, {2}}, []bool{true, true}, []int{0, 1}},
		{[][]int{{1}, {0}}, all(9), []int{0, 1}},
		{[][]int{{2}, {0}}, all(9), nil},
	} {
		if got := cycle.On(x.g, x.in); !slices.Equal(got, x.want) {
			t.Errorf("On(%v, %v) = %v; want %v", x.g, x.in, got, x.want)
		}
	}
}

// P11.1, many graphs; what is handed in is not changed.
func TestOn(t *testing.T) {
	graphs(func(g [][]int, in []bool) {
		before, kept := copied(g), slices.Clone(in)
		want := onOracle(g, in)
		if got := cycle.On(g, in); !slices.Equal(got, want) {
			t.Errorf("On(%v, %v) = %v; want %v", g, in, got, want)
		}
		if !same(g, before) || !slices.Equal(in, kept) {
			t.Errorf("On(%v, %v) changes what is handed in: %v, %v", before, kept, g, in)
		}
	})
}

// P11.2, written out.
func TestOrderNamed(t *testing.T) {
	for _, x := range []struct {
		g           [][]int
		in          []bool
		order, back []int
		ok          bool
	}{
		// Of 0 to 2, 1 to 0.
		{[][]int{{2}, {0}, {}}, all(3), []int{1, 0, 2}, []int{2, 0, 1}, true},
		// No places, no members, no edges.
		{nil, nil, nil, nil, true},
		{[][]int{}, all(2), nil, nil, true},
		{[][]int{{0}, {1}}, nil, nil, nil, true},
		{[][]int{{1}, {0}}, []bool{false, false, true}, nil, nil, true},
		{[][]int{nil}, all(1), []int{0}, []int{0}, true},
		{[][]int{{}, nil, {}}, all(3), []int{0, 1, 2}, []int{0, 1, 2}, true},
		// Circles of one, of two, and of many.
		{[][]int{{0}}, all(1), nil, nil, false},
		{[][]int{{}, {1, 1}, {}}, all(3), nil, nil, false},
		{[][]int{{1}, {0}}, all(2), nil, nil, false},
		{[][]int{{}, {3}, {}, {1}}, all(4), nil, nil, false},
		{[][]int{{1}, {2}, {3}, {4}, {0}}, all(5), nil, nil, false},
		{[][]int{{1}, {2}, {3}, {2}, {}}, all(5), nil, nil, false},
		// The same edge twice, and edges to what is no place.
		{[][]int{{}, {0, 0, 0}, {1, 1, 0}}, all(3), []int{2, 1, 0}, []int{0, 1, 2}, true},
		{[][]int{{3, -1}, {0, math.MinInt}, {math.MaxInt, 3}}, all(9), []int{1, 0, 2}, []int{0, 1, 2}, true},
		{[][]int{{1}}, all(2), []int{0}, []int{0}, true},
		// The least that may stand there, at each place; and not the order of the graph turned, from behind.
		{[][]int{{}, {}, {0}}, all(3), []int{1, 2, 0}, []int{0, 1, 2}, true},
		{[][]int{{3}, {}, {}, {}}, all(4), []int{0, 1, 2, 3}, []int{1, 2, 3, 0}, true},
		{[][]int{{}, {}, {0}, {1}}, all(4), []int{2, 0, 3, 1}, []int{0, 1, 2, 3}, true},
		{[][]int{{}, {}, {1}, {0}}, all(4), []int{2, 1, 3, 0}, []int{0, 1, 2, 3}, true},
		{[][]int{{1, 4}, {2}, {}, {2}, {3}}, all(5), []int{0, 1, 4, 3, 2}, []int{2, 1, 3, 4, 0}, true},
		// One comes as late as the last one that is to stand ahead of it.
		{[][]int{{}, {2}, {3}, {0}, {0}}, all(5), []int{1, 2, 3, 4, 0}, []int{0, 3, 2, 1, 4}, true},
		{[][]int{{}, {0}, {0}, {0}}, all(4), []int{1, 2, 3, 0}, []int{0, 1, 2, 3}, true},
		// Through a place that is no member no edge leads, and no circle.
		{[][]int{{}, {0}, {1}}, []bool{true, false, true}, []int{0, 2}, []int{0, 2}, true},
		{[][]int{{1}, {2}, {0}}, []bool{true, false, true}, []int{2, 0}, []int{0, 2}, true},
		{[][]int{{1}, {1}, {1}}, []bool{true, false, true}, []int{0, 2}, []int{0, 2}, true},
		{[][]int{{1}, {2}, {0}}, []bool{true, true}, []int{0, 1}, []int{1, 0}, true},
		{[][]int{{1}, {2}, {0}}, []bool{true, true, true, true}, nil, nil, false},
	} {
		if got, ok := cycle.Order(x.g, x.in); !slices.Equal(got, x.order) || ok != x.ok {
			t.Errorf("Order(%v, %v) = %v, %v; want %v, %v", x.g, x.in, got, ok, x.order, x.ok)
		}
		if got, ok := cycle.Back(x.g, x.in); !slices.Equal(got, x.back) || ok != x.ok {
			t.Errorf("Back(%v, %v) = %v, %v; want %v, %v", x.g, x.in, got, ok, x.back, x.ok)
		}
	}
}

// P11.2, many graphs; what is handed in is not changed.
func TestOrder(t *testing.T) {
	graphs(func(g [][]int, in []bool) {
		before, kept := copied(g), slices.Clone(in)
		want, is := orderOracle(g, in, false)
		if got, ok := cycle.Order(g, in); !slices.Equal(got, want) || ok != is {
			t.Errorf("Order(%v, %v) = %v, %v; want %v, %v", g, in, got, ok, want, is)
		}
		want, is = orderOracle(g, in, true)
		back, ok := cycle.Back(g, in)
		if !slices.Equal(back, want) || ok != is {
			t.Errorf("Back(%v, %v) = %v, %v; want %v, %v", g, in, back, ok, want, is)
		}
		if got, is := cycle.Order(digraph.Turn(g), in); !slices.Equal(got, back) || ok != is {
			t.Errorf("Order of %v, %v turned = %v, %v; Back = %v, %v", g, in, got, is, back, ok)
		}
		if !same(g, before) || !slices.Equal(in, kept) {
			t.Errorf("%v, %v: what is handed in is changed: %v, %v", before, kept, g, in)
		}
	})
}

// P11.3.
func TestOrderWithoutCircles(t *testing.T) {
	graphs(func(g [][]int, in []bool) {
		on := cycle.On(g, in)
		order, ok := cycle.Order(g, in)
		back, is := cycle.Back(g, in)
		if ok != (len(on) == 0) || is != ok || !ok && len(order)+len(back) > 0 {
			t.Errorf("%v, %v: On = %v; Order = %v, %v; Back = %v, %v", g, in, on, order, ok, back, is)
		}
	})
}

// P11.1 and P11.2, edges to no place, each alone: they count as not there.
func TestNone(t *testing.T) {
	for n := 1; n < 5; n++ {
		for _, none := range noPlaces(n) {
			g := make([][]int, n)
			g[n-1] = []int{none, 0, none}
			// More members than places: none of the graph are those.
			in := all(2*n + 3)
			on := cycle.On(g, in)
			order, ok := cycle.Order(g, in)
			if n == 1 {
				if !slices.Equal(on, []int{0}) || len(order) != 0 || ok {
					t.Errorf("of %v: %v, %v, %v", g, on, order, ok)
				}
				continue
			}
			want := []int{}
			for at := 1; at < n; at++ {
				want = append(want, at)
			}
			if want = append(want, 0); len(on) != 0 || !ok || !slices.Equal(order, want) {
				t.Errorf("of %v: %v, %v, %v; want %v", g, on, order, ok, want)
			}
		}
	}
}

// ring is a circle of n places, each leading so many places on.
func ring(n, on int) [][]int {
	g := make([][]int, n)
	for at := range n {
		g[at] = []int{(at + on) % n}
	}
	return g
}

// P11.1 to P11.3, and P7: long circles, and long ways.
func TestLong(t *testing.T) {
	const n = 100000
	g, in := ring(n, 7919), all(n)
	rising := make([]int, n)
	for at := range n {
		rising[at] = at
	}
	if on := cycle.On(g, in); !slices.Equal(on, rising) {
		t.Errorf("of a long circle %d are on one", len(on))
	}
	if order, ok := cycle.Order(g, in); len(order) != 0 || ok {
		t.Error("there is an order of a long circle")
	}
	for _, without := range []int{0, 1, n / 2, n - 1} {
		in[without] = false
		order, ok := cycle.Order(g, in)
		back, is := cycle.Back(g, in)
		if on := cycle.On(g, in); len(on) != 0 || !ok || !is || len(order) != n-1 || len(back) != n-1 {
			t.Errorf("without %d: %d, %d, %d", without, len(on), len(order), len(back))
		}
		for i, at := range order {
			if at != (without+(i+1)*7919)%n || back[n-2-i] != at {
				t.Fatalf("without %d, at %d: %d and %d", without, i, at, back[n-2-i])
			}
		}
		in[without] = true
	}
	g[n/2] = nil
	if order, ok := cycle.Order(g, in); !ok || len(order) != n || order[n-1] != n/2 {
		t.Errorf("of a long way: %d, %v", len(order), ok)
	}
}

// P11.1 and P11.2, many circles side by side, one leading to the next.
func TestManyCircles(t *testing.T) {
	const circles = 20000
	g := make([][]int, 3*circles)
	var want []int
	for i := range circles {
		first := 3 * i
		g[first], g[first+1] = []int{first + 1}, []int{first + 2, first}
		if i+1 < circles {
			g[first+2] = []int{first + 3}
		}
		want = append(want, first, first+1)
	}
	if on := cycle.On(g, all(len(g))); !slices.Equal(on, want) {
		t.Errorf("%d are on circles; want %d", len(on), len(want))
	}
	if on := cycle.On(digraph.Turn(g), all(len(g))); !slices.Equal(on, want) {
		t.Errorf("turned, %d are on circles; want %d", len(on), len(want))
	}
}

// P11.2, each place leads to all that are greater.
func TestOrderOfMany(t *testing.T) {
	const n = 600
	g := make([][]int, n)
	var rising []int
	for at := range n {
		for to := n - 1; to > at; to-- {
			g[at] = append(g[at], to)
		}
		rising = append(rising, at)
	}
	order, ok := cycle.Order(g, all(n))
	back, is := cycle.Back(g, all(n))
	slices.Reverse(back)
	if !ok || !is || !slices.Equal(order, rising) || !slices.Equal(back, rising) {
		t.Errorf("%v, %v, %v, %v", order, ok, back, is)
	}
	g[n-1] = []int{0}
	if on := cycle.On(g, all(n)); !slices.Equal(on, rising) {
		t.Errorf("with a way back %d are on circles", len(on))
	}
}

// Rules 4 and 5: answers share no memory with what is handed in, nor with one another.
func TestShares(t *testing.T) {
	order := func(g [][]int, in []bool) []int { l, _ := cycle.Order(g, in); return l }
	back := func(g [][]int, in []bool) []int { l, _ := cycle.Back(g, in); return l }
	for _, ask := range []func(g [][]int, in []bool) []int{cycle.On, order, back} {
		for _, edges := range []uint64{0, 0b111, 0b010_000, 0b100_010, 0b100_010_001_000, 0b111_111_111} {
			g, in := tidy(4, edges), all(4)
			before, first, second := copied(g), ask(g, in), ask(g, in)
			want := slices.Clone(second)
			first = append(first, 77, 78)
			for i := range first[:cap(first)] {
				first[:cap(first)][i] = 99
			}
			if !slices.Equal(second, want) || !same(g, before) || !slices.Equal(in, all(4)) || !slices.Equal(ask(g, in), want) {
				t.Errorf("of %v: an answer shares memory: %v, %v, %v", before, second, g, in)
			}
			for _, l := range g {
				for j := range l {
					l[j] = 88
				}
			}
			clear(g)
			clear(in)
			if !slices.Equal(second, want) {
				t.Errorf("of %v: what is handed in is kept: %v", before, second)
			}
		}
	}
}

// P7, of cycle: each call ends, and answers alike when it is asked again.
func TestCycleEnds(t *testing.T) {
	numbers := []int{math.MinInt, math.MinInt + 1, -1 << 40, -2, -1, 0, 1, 2, 3, 1 << 31, 1 << 40, math.MaxInt - 1, math.MaxInt}
	for _, g := range [][][]int{nil, {}, {nil}, {{}, nil}, {numbers}, {numbers, numbers}, {numbers, nil, numbers}, {nil, numbers, {0}}} {
		for _, in := range [][]bool{nil, {}, {true}, {false, true}, {true, false, true}, all(64)} {
			if !slices.Equal(cycle.On(g, in), cycle.On(g, in)) {
				t.Errorf("On(%v, %v)", g, in)
			}
			for _, ask := range []func(g [][]int, in []bool) ([]int, bool){cycle.Order, cycle.Back} {
				first, ok := ask(g, in)
				if second, is := ask(g, in); !slices.Equal(first, second) || ok != is || !ok && len(first) != 0 {
					t.Errorf("of %v, %v: %v, %v and %v, %v", g, in, first, ok, second, is)
				}
			}
		}
	}
}
