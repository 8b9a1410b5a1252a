package deep_test

import (
	"math"
	"slices"
	"testing"

	"sheerleg/cycle"
	"sheerleg/deep"
)

const (
	most    = 1 << 20
	deepest = 1 << 40
)

// chance gives numbers that look as if they hung on nothing, always the same ones.
type chance uint64

func (c *chance) next(n int) int {
	*c = *c*6364136223846793005 + 1442695040888963407
	return int(*c >> 33 % chance(n))
}

// numbers are those at which what counts changes.
func numbers() []int {
	return []int{math.MinInt, math.MinInt + 1, -1 << 40, -most, -2, -1, 0, 1, 2, 3, 7, most - 1, most, most + 1, 1 << 31, 1 << 32, deepest, math.MaxInt - 1, math.MaxInt}
}

// given is what is handed in.
type given struct {
	g          [][]int
	in         []bool
	own        []int
	rest, step int
}

func (x given) depths() ([]int, bool) {
	return deep.Depths(x.g, x.in, x.own, x.rest, x.step)
}

func (x given) worst(at int) []int {
	return deep.Worst(x.g, x.in, x.own, x.rest, x.step, at)
}

func (x given) isPlace(at int) bool {
	return at >= 0 && at < len(x.g)
}

func (x given) isMember(at int) bool {
	return at >= 0 && at < len(x.in) && x.in[at]
}

// near is what a number counts as.
func near(n int) int {
	return max(0, min(n, most))
}

// ownOf is what a member's own counts as.
func (x given) ownOf(at int) int {
	if at < len(x.own) {
		return near(x.own[at])
	}
	return 0
}

// ends are those of a place's edges that lead to a place, rising.
func (x given) ends(at int) []int {
	var ends []int
	for to := range x.g {
		if slices.Contains(x.g[at], to) {
			ends = append(ends, to)
		}
	}
	return ends
}

// depthOracle goes all ways from at on.
func (x given) depthOracle(at int) int {
	if !x.isMember(at) {
		return near(x.rest)
	}
	below := 0
	for _, to := range x.ends(at) {
		below = max(below, near(x.step)+x.depthOracle(to))
	}
	return x.ownOf(at) + below
}

// worstOracle holds at each place what the ends cost against one another.
func (x given) worstOracle(at int) []int {
	way := []int{at}
	for x.isMember(at) && len(x.ends(at)) > 0 {
		best := x.ends(at)[0]
		for _, to := range x.ends(at) {
			if x.depthOracle(to) > x.depthOracle(best) {
				best = to
			}
		}
		way = append(way, best)
		at = best
	}
	return way
}

// along is what is come to on a way.
func (x given) along(way []int) int {
	sum := 0
	for i, at := range way {
		if i > 0 {
			sum += near(x.step)
		}
		if x.isMember(at) {
			sum += x.ownOf(at)
		} else {
			sum += near(x.rest)
		}
	}
	return sum
}

func (x given) copied() given {
	y := x
	y.g = nil
	for _, l := range x.g {
		y.g = append(y.g, slices.Clone(l))
	}
	y.in, y.own = slices.Clone(x.in), slices.Clone(x.own)
	return y
}

func (x given) same(y given) bool {
	return slices.EqualFunc(x.g, y.g, slices.Equal[[]int]) && slices.Equal(x.in, y.in) && slices.Equal(x.own, y.own)
}

func all(n int) []bool {
	return slices.Repeat([]bool{true}, n)
}

// places are those of a graph of n, in any order.
func (c *chance) places(n int) []int {
	l := make([]int, n)
	for i := range l {
		j := c.next(i + 1)
		l[i], l[j] = l[j], i
	}
	return l
}

// some is a graph of n places of any edges, some of them twice, some to no place; of three graphs two have edges from one ahead to one behind alone.
func (c *chance) some(n int) given {
	x := given{g: make([][]int, n), in: make([]bool, max(0, n-1+c.next(3))), own: make([]int, max(0, n-2+c.next(4)))}
	places, falls := c.places(n), c.next(3) > 0
	none := []int{math.MinInt, -n - 1, -n, -1, n, n + 1, 1 << 32, math.MaxInt}
	for range c.next(3*n + 1) {
		i, j := c.next(n), c.next(n)
		if falls && i == j {
			continue
		}
		if falls {
			i, j = min(i, j), max(i, j)
		}
		from, to := places[i], places[j]
		x.g[from] = append(x.g[from], to)
		if c.next(4) == 0 {
			x.g[from] = append(x.g[from], to, none[c.next(len(none))])
		}
	}
	for at := range x.in {
		x.in[at] = c.next(4) > 0
	}
	pick := func() int {
		if c.next(4) == 0 {
			return numbers()[c.next(len(numbers()))]
		}
		return c.next(4)
	}
	for at := range x.own {
		x.own[at] = pick()
	}
	x.rest, x.step = pick(), pick()
	return x
}

// many tells many of those.
func many(tell func(x given)) {
	c := chance(12)
	for i := range 20000 {
		tell(c.some(i % 8))
	}
}

// named are some of which the answers are written out: the depths, and of each place the worst way.
func named() []struct {
	what   string
	x      given
	depths []int
	worst  [][]int
} {
	in3 := func(a, b, c bool) []bool { return []bool{a, b, c} }
	return []struct {
		what   string
		x      given
		depths []int
		worst  [][]int
	}{
		{"the example", given{[][]int{{1}, {}}, all(2), []int{3, 4}, 1, 1}, []int{8, 4}, [][]int{{0, 1}, {1}}},
		{"no places", given{nil, nil, nil, 1, 1}, nil, nil},
		{"no places, but members", given{[][]int{}, all(2), []int{1, 2}, 1, 1}, nil, nil},
		{"no members", given{[][]int{{1}, {0}, {2}}, nil, []int{3, 4, 5}, 2, 9}, []int{2, 2, 2}, [][]int{{0}, {1}, {2}}},
		{"members without edges", given{[][]int{{}, nil, {}}, all(3), []int{3, 0, 5}, 7, 9}, []int{3, 0, 5}, [][]int{{0}, {1}, {2}}},
		{"an end that is no member", given{[][]int{{1}, {0}, {1}}, in3(true, false, true), []int{3, 50, 2}, 4, 1}, []int{8, 4, 7}, [][]int{{0, 1}, {1}, {2, 1}}},
		{"edges of what is no member", given{[][]int{{1}, {2, 0}, {}}, in3(true, false, true), []int{3, 50, 99}, 4, 1}, []int{8, 4, 99}, [][]int{{0, 1}, {1}, {2}}},
		{"a circle through what is no member", given{[][]int{{1}, {2}, {0}}, in3(true, false, true), []int{3, 50, 2}, 4, 10}, []int{17, 4, 29}, [][]int{{0, 1}, {1}, {2, 0, 1}}},
		{"what is no member leads to itself", given{[][]int{{1}, {1}, {0}}, in3(true, false, true), nil, 4, 10}, []int{14, 4, 24}, [][]int{{0, 1}, {1}, {2, 0, 1}}},
		{"members beyond in", given{[][]int{{1}, {2}, {}}, []bool{true}, []int{1, 2, 3}, 10, 100}, []int{111, 10, 10}, [][]int{{0, 1}, {1}, {2}}},
		{"members beyond the graph", given{[][]int{{1}, {2}, {3}}, all(9), []int{1, 2, 3, 4, 5}, 10, 100}, []int{206, 105, 3}, [][]int{{0, 1, 2}, {1, 2}, {2}}},
		{"own of fewer", given{[][]int{{1}, {2}, {}}, all(3), []int{1}, 10, 100}, []int{201, 100, 0}, [][]int{{0, 1, 2}, {1, 2}, {2}}},
		{"own of nobody", given{[][]int{{1}, {2}, {}}, all(3), nil, 10, 100}, []int{200, 100, 0}, [][]int{{0, 1, 2}, {1, 2}, {2}}},
		{"own of more", given{[][]int{{}, {0}}, all(2), []int{1, 2, 30, 40}, 10, 100}, []int{1, 103}, [][]int{{0}, {1, 0}}},
		{"the edge twice, and to no place", given{[][]int{{1, 1, 1}, {-1, 3, 9}, {math.MinInt, 1, math.MaxInt}}, all(3), []int{1, 2, 3}, 10, 100}, []int{103, 2, 105}, [][]int{{0, 1}, {1}, {2, 1}}},
		{"the deeper end, not the lesser place", given{[][]int{{1, 2}, {}, {}}, all(3), []int{1, 2, 3}, 0, 1}, []int{5, 2, 3}, [][]int{{0, 2}, {1}, {2}}},
		{"the deeper end, not the one with more of its own", given{[][]int{{2, 1}, {}, {3}, {}}, all(4), []int{0, 5, 1, 5}, 0, 1}, []int{8, 5, 7, 5}, [][]int{{0, 2, 3}, {1}, {2, 3}, {3}}},
		{"of equal ones the least place", given{[][]int{{3, 2, 1, 2}, {}, {}, {}}, all(4), []int{0, 4, 5, 5}, 0, 1}, []int{6, 4, 5, 5}, [][]int{{0, 2}, {1}, {2}, {3}}},
		{"of equal ones the least place, no member", given{[][]int{{2, 1}, {}, {}}, in3(true, false, true), []int{0, 9, 5}, 5, 1}, []int{6, 5, 5}, [][]int{{0, 1}, {1}, {2}}},
		{"of equal ones the least place, a member", given{[][]int{{2, 1}, {}, {}}, in3(true, true, false), []int{0, 5, 9}, 5, 1}, []int{6, 5, 5}, [][]int{{0, 1}, {1}, {2}}},
		{"nothing costs anything", given{[][]int{{2, 1}, {2}, {}}, all(3), []int{0, 0, 0}, 0, 0}, []int{0, 0, 0}, [][]int{{0, 1, 2}, {1, 2}, {2}}},
		{"numbers below 0", given{[][]int{{1, 2}, {}, {1}}, in3(true, false, true), []int{-1, -9, math.MinInt}, -5, -7}, []int{0, 0, 0}, [][]int{{0, 1}, {1}, {2, 1}}},
		{"rest below 0", given{[][]int{{1}, {}}, []bool{true}, []int{2, 3}, math.MinInt, 4}, []int{6, 0}, [][]int{{0, 1}, {1}}},
		{"step below 0", given{[][]int{{1}, {}}, []bool{true}, []int{2, 3}, 4, math.MinInt}, []int{6, 4}, [][]int{{0, 1}, {1}}},
		{"numbers as great as may be", given{[][]int{{1}, {2}, {}}, in3(true, true, false), []int{most, most - 1, 0}, most, most - 2}, []int{5*most - 5, 3*most - 3, most}, [][]int{{0, 1, 2}, {1, 2}, {2}}},
		{"greater numbers", given{[][]int{{1}, {2}, {}}, in3(true, true, false), []int{most + 1, math.MaxInt, 0}, math.MaxInt, math.MaxInt}, []int{5 * most, 3 * most, most}, [][]int{{0, 1, 2}, {1, 2}, {2}}},
		{"greater numbers that count alike", given{[][]int{{2, 1}, {}, {}}, all(3), []int{0, most, most + 1}, 0, 1}, []int{most + 1, most, most}, [][]int{{0, 1}, {1}, {2}}},
	}
}

// P12.1 and P12.2, written out.
func TestNamed(t *testing.T) {
	for _, x := range named() {
		if got, ok := x.x.depths(); !slices.Equal(got, x.depths) || !ok {
			t.Errorf("%s: Depths = %v, %v; want %v, true", x.what, got, ok, x.depths)
		}
		for at, want := range x.worst {
			if got := x.x.worst(at); !slices.Equal(got, want) {
				t.Errorf("%s: Worst at %d = %v; want %v", x.what, at, got, want)
			}
		}
		for _, at := range []int{math.MinInt, -1 << 32, -2, -1, len(x.x.g), len(x.x.g) + 1, 1 << 32, math.MaxInt} {
			if got := x.x.worst(at); len(got) != 0 {
				t.Errorf("%s: Worst at %d, no place, = %v", x.what, at, got)
			}
		}
	}
}

// P12.1 and P12.2, circles of members: nothing, wherever it is asked.
func TestCircles(t *testing.T) {
	for _, x := range []given{
		{[][]int{{0}}, all(1), nil, 0, 0},
		{[][]int{{}, {1, 1}}, all(2), []int{3, 4}, 1, 1},
		{[][]int{{1}, {0}, {}}, all(3), []int{3, 4, 5}, 1, 1},
		{[][]int{{}, {}, {4}, {2}, {3}}, all(5), []int{3, 4, 5, 6, 7}, 1, 1},
		{[][]int{{1}, {2}, {0}, {0}}, all(9), nil, most, most},
		{[][]int{{1}, {2}, {1}, {}}, []bool{false, true, true, true}, nil, 0, 1},
	} {
		if got, ok := x.depths(); len(got) != 0 || ok {
			t.Errorf("%v: Depths = %v, %v; want nothing, false", x, got, ok)
		}
		for at := -2; at < len(x.g)+2; at++ {
			if got := x.worst(at); len(got) != 0 {
				t.Errorf("%v: Worst at %d = %v; want nothing", x, at, got)
			}
		}
	}
}

// P12.1 and P12.2, many; what is handed in is not changed.
func TestMany(t *testing.T) {
	circles, ways := 0, 0
	many(func(x given) {
		before := x.copied()
		got, ok := x.depths()
		if len(cycle.On(x.g, x.in)) > 0 {
			circles++
			if len(got) != 0 || ok {
				t.Errorf("%v: Depths = %v, %v; want nothing, false", x, got, ok)
			}
			for at := range x.g {
				if way := x.worst(at); len(way) != 0 {
					t.Errorf("%v: Worst at %d = %v; want nothing", x, at, way)
				}
			}
			return
		}
		if len(got) != len(x.g) || !ok {
			t.Fatalf("%v: Depths = %v, %v", x, got, ok)
		}
		for at, depth := range got {
			if want := x.depthOracle(at); depth != want {
				t.Errorf("%v: Depths = %v; want %d at %d", x, got, want, at)
			}
			way, want := x.worst(at), x.worstOracle(at)
			if !slices.Equal(way, want) || x.along(way) != depth {
				t.Errorf("%v: Worst at %d = %v; want %v, on which %d is come to", x, at, way, want, depth)
			}
			if len(way) > 2 {
				ways++
			}
		}
		if !x.same(before) {
			t.Errorf("%v is changed: %v", before, x)
		}
	})
	// Else this asks too little.
	if circles < 1000 || ways < 1000 {
		t.Errorf("%d circles, %d ways", circles, ways)
	}
}

// P12.1, each number, of own, rest and step.
func TestNumbers(t *testing.T) {
	for _, own := range numbers() {
		for _, rest := range numbers() {
			for _, step := range numbers() {
				x := given{[][]int{{1}, {2}, {}, {}}, []bool{true, true, false, true}, []int{own, own, own, own}, rest, step}
				want := []int{2*near(own) + 2*near(step) + near(rest), near(own) + near(step) + near(rest), near(rest), near(own)}
				if got, ok := x.depths(); !slices.Equal(got, want) || !ok {
					t.Errorf("%v: Depths = %v, %v; want %v", x, got, ok, want)
				}
			}
		}
	}
}

// falling is n members, each leading to the one that is one less, with the greatest numbers.
func falling(n int) given {
	x := given{make([][]int, n), all(n), slices.Repeat([]int{most}, n), 0, most}
	for at := 1; at < n; at++ {
		x.g[at] = []int{at - 1}
	}
	return x
}

// P12.1 and P12.2, depths round 2^40, and beyond.
func TestDeepest(t *testing.T) {
	// Each goes 2^21 deeper than the one to which it leads: the place 2^19 just 2^40 deeper than the first one.
	const n = deepest/most/2 + 4
	x := falling(n)
	for _, own := range []int{0, 1} {
		x.own[0] = own
		got, ok := x.depths()
		if len(got) != n || !ok {
			t.Fatalf("%d depths, %v", len(got), ok)
		}
		for at := n - 8; at < n; at++ {
			if want := min(deepest, 2*at*most+own); got[at] != want {
				t.Errorf("with %d at the first one: %d at %d; want %d", own, got[at], at, want)
			}
		}
	}
	// Beyond 2^40 all are as deep: it is the least place, though it was a greater one that went deeper, told without a bound.
	x.g[n-1] = []int{n - 2, n - 3, 0}
	if way := x.worst(n - 1); len(way) != n-1 || way[1] != n-3 || way[n-2] != 0 {
		t.Errorf("a way of %d places", len(way))
	}
}

// P12.1, P12.2 and P7: long ways.
func TestLong(t *testing.T) {
	const n = 100000
	g := make([][]int, n)
	for at := range n - 1 {
		g[at*7919%n] = []int{(at + 1) * 7919 % n, (n - 1) * 7919 % n}
	}
	x := given{g, all(n), []int{5}, 3, 1}
	got, ok := x.depths()
	if len(got) != n || !ok {
		t.Fatalf("%d depths, %v", len(got), ok)
	}
	way := x.worst(0)
	if len(way) != n || got[0] != n-1+5 {
		t.Fatalf("a way of %d places, %d deep", len(way), got[0])
	}
	for i, at := range way {
		if at != i*7919%n || i > 0 && got[at] != n-1-i {
			t.Fatalf("at %d: %d, %d deep", i, at, got[at])
		}
	}
	x.g[(n-1)*7919%n] = []int{0}
	if got, ok := x.depths(); len(got) != 0 || ok || len(x.worst(0)) != 0 {
		t.Error("a long circle has depths")
	}
}

// noLess holds y, which has more, against x: there are no Depths that there weren't, and no place goes less deep.
func noLess(t *testing.T, x, y given) {
	less, ok := x.depths()
	more, is := y.depths()
	if !ok && is {
		t.Errorf("%v has no depths, %v has", x, y)
	}
	if !ok || !is {
		return
	}
	for at := range less {
		if more[at] < less[at] {
			t.Errorf("%v: %v; %v: %v", x, less, y, more)
		}
	}
}

// P12.3.
func TestMore(t *testing.T) {
	c := chance(3)
	many(func(x given) {
		if len(x.g) == 0 {
			return
		}
		x.rest = 0
		y := x.copied()
		for len(y.in) < len(y.g) {
			y.in = append(y.in, false)
		}
		noLess(t, x, y)
		y.in[c.next(len(y.in))] = true
		noLess(t, x, y)
		z := y.copied()
		z.step = max(z.step, z.step+c.next(most))
		noLess(t, y, z)
		for at := range z.own {
			z.own[at] = max(z.own[at], z.own[at]+c.next(most))
		}
		noLess(t, y, z)
		z.own = append(z.own, 1, 2, 3)
		noLess(t, y, z)
		z.rest = c.next(most)
		noLess(t, y, z)
	})
}

// Rules 4 and 5: answers share no memory with what is handed in, nor with one another.
func TestShares(t *testing.T) {
	asks := []func(x given) []int{
		func(x given) []int { l, _ := x.depths(); return l },
		func(x given) []int { return x.worst(0) },
		func(x given) []int { return x.worst(2) },
	}
	for _, x := range []given{
		{[][]int{{1}, {2}, {}}, all(3), []int{1, 2, 3}, 1, 1},
		{[][]int{{1}, {2}, {}}, nil, []int{1, 2, 3}, 1, 1},
		{[][]int{{1, 2}, {}, {}}, []bool{true, false}, []int{1, 2, 3}, 4, 5},
	} {
		for _, ask := range asks {
			before, first, second := x.copied(), ask(x), ask(x)
			want := slices.Clone(second)
			first = append(first, 77, 78)
			for i := range first[:cap(first)] {
				first[:cap(first)][i] = 99
			}
			if !slices.Equal(second, want) || !x.same(before) || !slices.Equal(ask(x), want) {
				t.Errorf("of %v: an answer shares memory: %v, %v", before, second, x)
			}
			y := x.copied()
			third := ask(y)
			for _, l := range y.g {
				for j := range l {
					l[j] = 88
				}
			}
			clear(y.g)
			clear(y.in)
			clear(y.own)
			if !slices.Equal(third, want) {
				t.Errorf("of %v: what is handed in is kept: %v", before, third)
			}
		}
	}
}

// P7, of deep: each call ends, and answers alike when it is asked again.
func TestDeepEnds(t *testing.T) {
	l := numbers()
	for _, g := range [][][]int{nil, {}, {nil}, {l}, {nil, l}, {nil, {0}, l}, {l, l, l, nil}} {
		for _, in := range [][]bool{nil, {true}, {false, true}, {false, false, true}, all(9)} {
			for i, own := range [][]int{nil, {}, l, {math.MinInt}, {math.MaxInt, math.MinInt}} {
				for j := range l {
					x := given{g, in, own, l[j], l[(j*3+i)%len(l)]}
					first, ok := x.depths()
					if second, is := x.depths(); !slices.Equal(first, second) || ok != is || !ok && len(first) != 0 {
						t.Errorf("%v: Depths = %v, %v and %v, %v", x, first, ok, second, is)
					}
					for _, at := range l {
						if way := x.worst(at); !slices.Equal(way, x.worst(at)) || len(way) > 0 != (ok && x.isPlace(at)) {
							t.Errorf("%v: Worst at %d = %v", x, at, way)
						}
					}
				}
			}
		}
	}
}
