package table_test

import (
	"math"
	"testing"

	"sheerleg/api"
	"sheerleg/place"
	"sheerleg/table"
)

// fn is a function of an image, with its own code from body to less than end.
func fn(start, body, end int) api.Fn {
	return api.Fn{File: 77, Item: 78, Start: start, Body: body, End: end, Frame: 79}
}

// source holds Source to what it answers.
func source(t *testing.T, fns []api.Fn, pc, number, ahead int, ok bool) {
	t.Helper()
	if gotNumber, gotAhead, gotOK := table.Source(fns, pc); gotNumber != number || gotAhead != ahead || gotOK != ok {
		t.Errorf("Source(%v, %d) = %d, %d, %v; want %d, %d, %v", fns, pc, gotNumber, gotAhead, gotOK, number, ahead, ok)
	}
}

// none holds Source to that it answers nothing of these places.
func none(t *testing.T, fns []api.Fn, places ...int) {
	t.Helper()
	for _, pc := range places {
		source(t, fns, pc, 0, 0, false)
	}
}

// P33.1, Source: just ahead of a body, at it, at its last instruction, and just behind.
func TestSource(t *testing.T) {
	fns := []api.Fn{fn(2, 3, 6), fn(6, 8, 9), fn(9, 11, 11), fn(11, 12, 16)}
	none(t, fns, -1, 0, 1, 2, 6, 7, 9, 10, 11, 16, 17)
	for _, x := range [][3]int{{3, 0, 0}, {4, 0, 1}, {5, 0, 2}, {8, 1, 0}, {12, 3, 0}, {13, 3, 1}, {15, 3, 3}} {
		source(t, fns, x[0], x[1], x[2], true)
	}
	none(t, nil, -1, 0, 1, 2, 3)
	none(t, []api.Fn{}, 0, 2)
}

// P33.1, Source: of functions that overlap the first is told, wherever they start; gaps are of none.
func TestSourceOverlap(t *testing.T) {
	fns := []api.Fn{fn(2, 5, 9), fn(2, 3, 7), fn(3, 3, 20), fn(30, 31, 33)}
	none(t, fns, 2, 20, 29, 30, 33)
	for _, x := range [][3]int{{3, 1, 0}, {4, 1, 1}, {5, 0, 0}, {6, 0, 1}, {8, 0, 3}, {9, 2, 6}, {19, 2, 16}, {31, 3, 0}, {32, 3, 1}} {
		source(t, fns, x[0], x[1], x[2], true)
	}
	// Where it starts turns nothing, and a body beyond the end has nothing.
	fns = []api.Fn{fn(9, 7, 5), fn(100, 6, 8), fn(-100, 5, 8)}
	none(t, fns, 4, 8, 9, 100)
	source(t, fns, 5, 2, 0, true)
	source(t, fns, 6, 1, 0, true)
	source(t, fns, 7, 1, 1, true)
}

// P33.1, Source: the least and the greatest numbers.
func TestSourceNumbers(t *testing.T) {
	for _, n := range numbers() {
		none(t, nil, n)
		none(t, []api.Fn{fn(n, n, n), {}, fn(2, n, math.MinInt)}, n, -n, 0, math.MinInt, math.MaxInt)
		if n < math.MaxInt {
			source(t, []api.Fn{{}, fn(0, n, math.MaxInt)}, n, 1, 0, true)
			none(t, []api.Fn{fn(0, n+1, math.MaxInt)}, n, math.MinInt, math.MaxInt)
		}
		if n > math.MinInt {
			source(t, []api.Fn{fn(0, n-1, n)}, n-1, 0, 0, true)
			none(t, []api.Fn{fn(0, n-1, n)}, n, math.MaxInt)
		}
	}
	source(t, []api.Fn{fn(0, 0, math.MaxInt)}, math.MaxInt-1, 0, math.MaxInt-1, true)
	source(t, []api.Fn{fn(0, math.MinInt, 0)}, -1, 0, math.MaxInt, true)
}

// P33.1, Source: of what is placed, each place of its own code is told, and no other one.
func TestSourcePlaced(t *testing.T) {
	c := chance(331)
	for range 2000 {
		p := c.some()
		plan := c.plan(p)
		fns, number, ahead := place.Fns(p, plan), -1, 0
		for pc, x := range laid(p, plan) {
			if x.at < 0 {
				if x.first {
					number++
				}
				none(t, fns, pc)
				continue
			}
			if ahead = x.i; fns[number].File != p.Funs[x.at].File {
				t.Fatalf("%d of %v comes from %d", number, fns, x.at)
			}
			source(t, fns, pc, number, ahead, true)
		}
	}
}
