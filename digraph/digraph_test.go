package digraph_test

import (
	"math"
	"slices"
	"testing"

	"sheerleg/digraph"
)

// chance gives numbers that look as if they hung on nothing, always the same ones.
type chance uint64

func (c *chance) next(n int) int {
	*c = *c*6364136223846793005 + 1442695040888963407
	return int(*c >> 33 % chance(n))
}

// noPlaces are numbers of no place of a graph of n places.
func noPlaces(n int) []int {
	return []int{math.MinInt, math.MinInt + 1, -1 << 32, -n - 1, -n, -2, -1, n, n + 1, 2 * n, 1 << 31, 1 << 32, 1<<32 + 1, math.MaxInt - 1, math.MaxInt}
}

// tidy is a graph of all those edges, as bits of places: of from to to the bit from times n and to.
func tidy(n int, edges uint64) [][]int {
	g := make([][]int, n)
	for from := range n {
		for to := range n {
			if edges>>(from*n+to)&1 == 1 {
				g[from] = append(g[from], to)
			}
		}
	}
	return g
}

// untidy is a graph with the same edges, some of them twice, in another order, and with some that lead to no place.
func untidy(g [][]int, c *chance) [][]int {
	none := noPlaces(len(g))
	h := make([][]int, len(g))
	for from, l := range g {
		for range c.next(3) {
			h[from] = append(h[from], none[c.next(len(none))])
		}
		for _, to := range l {
			for range 1 + c.next(2) {
				h[from] = append(h[from], to)
			}
		}
		for i := range h[from] {
			j := c.next(i + 1)
			h[from][i], h[from][j] = h[from][j], h[from][i]
		}
	}
	return h
}

// leads tells whether an edge of g leads from one place to another.
func leads(g [][]int, from, to int) bool {
	return from >= 0 && from < len(g) && to >= 0 && to < len(g) && slices.Contains(g[from], to)
}

// closed is, of each place, the places to which a way of one edge or more leads.
func closed(g [][]int) [][]bool {
	n := len(g)
	all := make([][]bool, n)
	for from := range n {
		all[from] = make([]bool, n)
		for to := range n {
			all[from][to] = leads(g, from, to)
		}
	}
	for over := range n {
		for from := range n {
			for to := range n {
				all[from][to] = all[from][to] || all[from][over] && all[over][to]
			}
		}
	}
	return all
}

// wayOracle tries all lists of places, the shorter ones first, the lesser place first.
func wayOracle(g [][]int, from, to int) []int {
	if from < 0 || from >= len(g) || to < 0 || to >= len(g) {
		return nil
	}
	for places := 1; places <= len(g); places++ {
		if way := longer(g, []int{from}, to, places); way != nil {
			return way
		}
	}
	return nil
}

// longer is the first way to to that begins so and has so many places.
func longer(g [][]int, way []int, to, places int) []int {
	last := way[len(way)-1]
	if len(way) == places {
		if last == to {
			return way
		}
		return nil
	}
	for next := range g {
		if leads(g, last, next) {
			if found := longer(g, append(slices.Clone(way), next), to, places); found != nil {
				return found
			}
		}
	}
	return nil
}

func copied(g [][]int) [][]int {
	var h [][]int
	for _, l := range g {
		h = append(h, slices.Clone(l))
	}
	return h
}

func same(g, h [][]int) bool {
	return slices.EqualFunc(g, h, slices.Equal[[]int])
}

// graphs tells each graph of up to three places, and some greater ones, tidy, and untidy.
func graphs(tell func(g, h [][]int)) {
	c := chance(10)
	for n := range 4 {
		for edges := range uint64(1) << (n * n) {
			g := tidy(n, edges)
			tell(g, g)
			tell(g, untidy(g, &c))
		}
	}
	for i := range 2000 {
		n := 4 + i%4
		edges := uint64(0)
		for range c.next(3 * n) {
			edges |= 1 << c.next(n*n)
		}
		g := tidy(n, edges)
		tell(g, untidy(g, &c))
	}
}

// P10.1, written out.
func TestCleanNamed(t *testing.T) {
	for _, x := range []struct{ g, clean, turned [][]int }{
		{nil, nil, nil},
		{[][]int{}, nil, nil},
		{[][]int{nil}, [][]int{{}}, [][]int{{}}},
		{[][]int{{}, nil, {}}, [][]int{{}, {}, {}}, [][]int{{}, {}, {}}},
		{[][]int{{0}}, [][]int{{0}}, [][]int{{0}}},
		{[][]int{{0, 0, 0}}, [][]int{{0}}, [][]int{{0}}},
		{[][]int{{1}}, [][]int{{}}, [][]int{{}}},
		{[][]int{{-1}}, [][]int{{}}, [][]int{{}}},
		{[][]int{{1}, {}}, [][]int{{1}, {}}, [][]int{{}, {0}}},
		{[][]int{{2, 1, 0}, {}, {}}, [][]int{{0, 1, 2}, {}, {}}, [][]int{{0}, {0}, {0}}},
		{[][]int{{2}, {2, 0}, {2, 2, 1}}, [][]int{{2}, {0, 2}, {1, 2}}, [][]int{{1}, {2}, {0, 1, 2}}},
		{[][]int{{3, 2, 1, 0, -1, 1, 2, 3}, {math.MinInt, math.MaxInt}, {0, 3, 0, 3}}, [][]int{{0, 1, 2}, {}, {0}}, [][]int{{0, 2}, {0}, {0}}},
		{[][]int{{1}, {2}, {3}, {0}}, [][]int{{1}, {2}, {3}, {0}}, [][]int{{3}, {0}, {1}, {2}}},
	} {
		if got := digraph.Clean(x.g); !same(got, x.clean) {
			t.Errorf("Clean(%v) = %v; want %v", x.g, got, x.clean)
		}
		if got := digraph.Turn(x.g); !same(got, x.turned) {
			t.Errorf("Turn(%v) = %v; want %v", x.g, got, x.turned)
		}
	}
}

// P10.1 and P10.3, many graphs; what is handed in is not changed.
func TestClean(t *testing.T) {
	graphs(func(g, h [][]int) {
		before := copied(h)
		if got := digraph.Clean(h); !same(got, g) {
			t.Errorf("Clean(%v) = %v; want %v", h, got, g)
		}
		turned := digraph.Turn(h)
		for to := range g {
			var want []int
			for from := range g {
				if leads(g, from, to) {
					want = append(want, from)
				}
			}
			if len(turned) != len(g) || !slices.Equal(turned[to], want) {
				t.Errorf("Turn(%v) = %v; want %v at %d", h, turned, want, to)
			}
		}
		if got := digraph.Turn(turned); !same(got, g) {
			t.Errorf("%v, turned twice, is %v; want %v", h, got, g)
		}
		if !same(h, before) {
			t.Errorf("%v is changed: %v", before, h)
		}
	})
}

// P10.1, edges to no place, each alone.
func TestCleanNone(t *testing.T) {
	for n := range 5 {
		for _, none := range noPlaces(n) {
			if n == 0 {
				continue
			}
			g := make([][]int, n)
			g[n-1] = []int{none, 0, none}
			clean, turned := make([][]int, n), make([][]int, n)
			clean[n-1], turned[0] = []int{0}, []int{n - 1}
			if got := digraph.Clean(g); !same(got, clean) {
				t.Errorf("Clean(%v) = %v; want %v", g, got, clean)
			}
			if got := digraph.Turn(g); !same(got, turned) {
				t.Errorf("Turn(%v) = %v; want %v", g, got, turned)
			}
		}
	}
}

// P10.2, reached places, written out.
func TestReachNamed(t *testing.T) {
	for _, x := range []struct {
		g    [][]int
		from []int
		want []bool
	}{
		{nil, nil, nil},
		{nil, []int{0}, nil},
		{[][]int{}, []int{-1, 0, 1}, nil},
		{[][]int{{}}, nil, []bool{false}},
		{[][]int{{0}}, nil, []bool{false}},
		{[][]int{nil}, []int{0}, []bool{true}},
		{[][]int{{1}, {2}, {}}, []int{0}, []bool{true, true, true}},
		{[][]int{{1}, {2}, {}}, []int{1}, []bool{false, true, true}},
		{[][]int{{1}, {2}, {}}, []int{2}, []bool{false, false, true}},
		{[][]int{{1}, {2}, {}}, []int{2, 2, 1, 2}, []bool{false, true, true}},
		{[][]int{{1}, {2}, {}}, []int{-1, 3, math.MinInt, math.MaxInt}, []bool{false, false, false}},
		{[][]int{{1}, {2}, {}}, []int{-1, 3, 1, 4}, []bool{false, true, true}},
		{[][]int{{1}, {0}, {2}}, []int{0}, []bool{true, true, false}},
		{[][]int{{4, -1}, {}, {}, {}}, []int{0}, []bool{true, false, false, false}},
		{[][]int{{}, {3}, {}, {1}, {}}, []int{4, 3}, []bool{false, true, false, true, true}},
	} {
		if got := digraph.Reach(x.g, x.from); !slices.Equal(got, x.want) {
			t.Errorf("Reach(%v, %v) = %v; want %v", x.g, x.from, got, x.want)
		}
	}
}

// P10.2 and P10.3, many graphs; what is handed in is not changed.
func TestReach(t *testing.T) {
	c := chance(2)
	graphs(func(g, h [][]int) {
		ways, before := closed(g), copied(h)
		starts := [][]int{nil}
		for at := range g {
			starts = append(starts, []int{at}, []int{at, c.next(len(g)), noPlaces(len(g))[c.next(len(noPlaces(0)))], at})
		}
		for _, from := range starts {
			kept := slices.Clone(from)
			got := digraph.Reach(h, from)
			if len(got) != len(g) {
				t.Fatalf("Reach(%v, %v) = %v", h, from, got)
			}
			for to := range g {
				want := slices.ContainsFunc(from, func(at int) bool { return at == to || at >= 0 && at < len(g) && ways[at][to] })
				if got[to] != want {
					t.Errorf("Reach(%v, %v) = %v; want %v at %d", h, from, got, want, to)
				}
			}
			if !slices.Equal(from, kept) || !same(h, before) {
				t.Errorf("Reach(%v, %v) changes what is handed in: %v, %v", before, kept, h, from)
			}
		}
		for at := range g {
			for to, is := range digraph.Reach(digraph.Turn(h), []int{at}) {
				if is != digraph.Reach(h, []int{to})[at] {
					t.Errorf("%v: %d reaches %d, turned: %v", h, to, at, is)
				}
			}
		}
	})
}

// P10.2, ways, written out.
func TestWayNamed(t *testing.T) {
	for _, x := range []struct {
		g        [][]int
		from, to int
		want     []int
	}{
		{[][]int{{1}, {2}, {}}, 0, 2, []int{0, 1, 2}},
		{[][]int{{1}, {2}, {}}, 0, 1, []int{0, 1}},
		{[][]int{{1}, {2}, {}}, 2, 0, nil},
		{[][]int{{1}, {2}, {}}, 1, 0, nil},
		// From and to are one: no edge is needed, and none is gone.
		{[][]int{{1}, {2}, {}}, 0, 0, []int{0}},
		{[][]int{{}}, 0, 0, []int{0}},
		{[][]int{{0}}, 0, 0, []int{0}},
		{[][]int{{1}, {0}}, 1, 1, []int{1}},
		// Places that are none.
		{nil, 0, 0, nil},
		{[][]int{}, -1, -1, nil},
		{[][]int{{1}, {2}, {}}, -1, 0, nil},
		{[][]int{{1}, {2}, {}}, 0, -1, nil},
		{[][]int{{1}, {2}, {}}, 0, 3, nil},
		{[][]int{{1}, {2}, {}}, 3, 0, nil},
		{[][]int{{1}, {2}, {}}, 3, 3, nil},
		{[][]int{{1}, {2}, {}}, -1, -1, nil},
		{[][]int{{3, -1}, {}, {}}, 0, 3, nil},
		{[][]int{{3, -1}, {}, {}}, 0, -1, nil},
		// The shorter one, though its places are greater.
		{[][]int{{1, 3}, {2}, {4}, {4}, {}}, 0, 4, []int{0, 3, 4}},
		{[][]int{{1, 2}, {2}, {}}, 0, 2, []int{0, 2}},
		// Several shortest ones, however the edges stand.
		{[][]int{{2, 1}, {3}, {3}, {}}, 0, 3, []int{0, 1, 3}},
		{[][]int{{2, 1, 2}, {3, 3}, {3}, {}}, 0, 3, []int{0, 1, 3}},
		{[][]int{{3, 2, 1}, {}, {4}, {4}, {}}, 0, 4, []int{0, 2, 4}},
		// The lesser place first, though it is behind a greater last one; and not the lesser last one behind a greater first.
		{[][]int{{1, 2}, {4}, {3}, {5}, {5}, {}}, 0, 5, []int{0, 1, 4, 5}},
		{[][]int{{2, 1}, {4}, {3}, {5}, {5}, {}}, 0, 5, []int{0, 1, 4, 5}},
		{[][]int{{6, 5}, {7}, {7}, {}, {}, {4, 3}, {2, 1}, {}}, 0, 7, []int{0, 6, 1, 7}},
		{[][]int{{6, 5}, {7}, {7}, {}, {7}, {4, 3}, {2, 1}, {}}, 0, 7, []int{0, 5, 4, 7}},
	} {
		if got := digraph.Way(x.g, x.from, x.to); !slices.Equal(got, x.want) {
			t.Errorf("Way(%v, %d, %d) = %v; want %v", x.g, x.from, x.to, got, x.want)
		}
	}
}

// P10.2, many graphs; what is handed in is not changed.
func TestWay(t *testing.T) {
	graphs(func(g, h [][]int) {
		before := copied(h)
		for from := range g {
			for to := range g {
				want := wayOracle(g, from, to)
				if got := digraph.Way(h, from, to); !slices.Equal(got, want) {
					t.Errorf("Way(%v, %d, %d) = %v; want %v", h, from, to, got, want)
				}
			}
		}
		for _, none := range noPlaces(len(g)) {
			if way := slices.Concat(digraph.Way(h, none, none), digraph.Way(h, 0, none), digraph.Way(h, none, 0)); len(way) != 0 {
				t.Errorf("of %v, with %d: %v", h, none, way)
			}
		}
		if !same(h, before) {
			t.Errorf("Way changes %v: %v", before, h)
		}
	})
}

// P10.2, a way there is just if the place is reached.
func TestWayReached(t *testing.T) {
	graphs(func(_, h [][]int) {
		for from := range h {
			for to, is := range digraph.Reach(h, []int{from}) {
				if is != (len(digraph.Way(h, from, to)) > 0) {
					t.Errorf("%v: from %d to %d: %v", h, from, to, is)
				}
			}
		}
	})
}

// Rules 4 and 5: answers share no memory with what is handed in, nor with one another, nor within themselves.
func TestGraphShares(t *testing.T) {
	for _, ask := range []func(g [][]int) [][]int{digraph.Clean, digraph.Turn} {
		for _, edges := range []uint64{0, 1, 0x124, 0x1ff, 0x0aa, 0x111} {
			g := tidy(3, edges)
			before, first, second := copied(g), ask(g), ask(g)
			want := copied(second)
			for i := range first {
				first[i] = append(first[i], 77, 78)
			}
			for i := range first {
				if !slices.Equal(first[i], append(slices.Clone(want[i]), 77, 78)) {
					t.Errorf("of %v: lists of one answer share memory: %v", before, first)
				}
			}
			for i := range first {
				for j := range first[i][:cap(first[i])] {
					first[i][:cap(first[i])][j] = 99
				}
				first[i] = nil
			}
			if !same(second, want) || !same(g, before) || !same(ask(g), want) {
				t.Errorf("of %v: an answer shares memory: %v, %v", before, second, g)
			}
			for _, l := range g {
				for j := range l {
					l[j] = 88
				}
			}
			clear(g)
			if !same(second, want) {
				t.Errorf("of %v: what is handed in is kept: %v", before, second)
			}
		}
	}
	g, from := [][]int{{1}, {2}, {0}}, []int{0}
	first, second := digraph.Reach(g, from), digraph.Reach(g, from)
	clear(first[:cap(first)])
	way, other := digraph.Way(g, 0, 2), digraph.Way(g, 0, 2)
	clear(way[:cap(way)])
	if !slices.Equal(second, []bool{true, true, true}) || !slices.Equal(other, []int{0, 1, 2}) || !same(g, [][]int{{1}, {2}, {0}}) {
		t.Errorf("an answer shares memory: %v, %v, %v", second, other, g)
	}
}

// P7, of digraph: long ways, many edges, and any numbers.
func TestDigraphEnds(t *testing.T) {
	const long = 200000
	g := make([][]int, long)
	for i := range g {
		g[i] = []int{i + 1}
	}
	way := digraph.Way(g, 0, long-1)
	if len(way) != long || way[0] != 0 || way[long-1] != long-1 || slices.Contains(digraph.Reach(g, []int{0}), false) {
		t.Errorf("a long way has %d places", len(way))
	}
	const wide = 700
	all := make([]int, wide)
	for i := range all {
		all[i] = wide - 1 - i
	}
	h := slices.Repeat([][]int{all}, wide)
	if got := digraph.Way(h, 3, 5); !slices.Equal(got, []int{3, 5}) {
		t.Errorf("among all edges: %v", got)
	}
	if slices.Contains(digraph.Reach(h, []int{wide - 1}), false) || !same(digraph.Turn(h), digraph.Clean(h)) {
		t.Error("all edges")
	}
	for _, n := range noPlaces(2) {
		for _, m := range noPlaces(3) {
			k := [][]int{{n, m, 1}, {m, n}, nil}
			if !same(digraph.Clean(k), digraph.Clean(k)) || !slices.Equal(digraph.Reach(k, []int{n, m}), digraph.Reach(k, []int{m, n})) || !slices.Equal(digraph.Way(k, n, m), digraph.Way(k, n, m)) {
				t.Errorf("of %v", k)
			}
		}
	}
}
