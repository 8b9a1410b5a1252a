package cycle

import (
	"iter"
	"slices"

	"sheerleg/digraph"
)

// knots tells all places of a clean g, those together that lead to one another.
func knots(g [][]int) iter.Seq[[]int] {
	return func(yield func(knot []int) bool) {
		ahead, back := newTrail(g), newTrail(digraph.Turn(g))
		var left []int
		for start := range g {
			left = append(left, ahead.from(start)...)
		}
		// What leads to the one that was left last, it leads to, too: so back from it there is nothing but its knot.
		slices.Reverse(left)
		for _, start := range left {
			if knot := back.from(start); len(knot) > 0 && !yield(knot) {
				return
			}
		}
	}
}

// trail goes over a graph, to each place once.
type trail struct {
	g     [][]int
	been  []bool
	edges []int // of each place, how many of its edges were gone
}

func newTrail(g [][]int) *trail {
	return &trail{g: g, been: make([]bool, len(g)), edges: make([]int, len(g))}
}

// from is the places that are come to from start on, as they are left: each when all that lies behind it is.
func (t *trail) from(start int) []int {
	var left []int
	// A list, and no call in a call, as ways may be long.
	entered := t.enter(nil, start)
	for len(entered) > 0 {
		place := entered[len(entered)-1]
		if t.edges[place] < len(t.g[place]) {
			t.edges[place]++
			entered = t.enter(entered, t.g[place][t.edges[place]-1])
			continue
		}
		entered = entered[:len(entered)-1]
		left = append(left, place)
	}
	return left
}

// enter puts the place behind those that are entered, if it is new.
func (t *trail) enter(entered []int, place int) []int {
	if t.been[place] {
		return entered
	}
	t.been[place] = true
	return append(entered, place)
}
