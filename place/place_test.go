package place_test

import (
	"fmt"
	"math"
	"slices"
	"testing"

	"sheerleg/api"
	"sheerleg/place"
	"sheerleg/prologue"
)

// numbers are those that any call may be given.
func numbers() []int {
	return []int{math.MinInt, math.MinInt + 1, -1 << 32, -65536, -257, -2, -1, 0, 1, 2, 3, 4, 8, 9, 64, 65, 255, 256, 4096, 1<<20 - 1, 1 << 20, 1<<20 + 1, 1 << 31, 1 << 32, 1<<32 + 1, math.MaxInt - 1, math.MaxInt}
}

// fun is a function with so many instructions.
func fun(instructions int) api.Fun {
	return api.Fun{F: api.Func{Code: make([]api.Instr, instructions)}}
}

// nosplit is f, of which the programmer said that it has no check.
func nosplit(f api.Fun) api.Fun {
	f.F.Nosplit = true
	return f
}

// dat is data of so many words.
func dat(words int) api.Dat {
	return api.Dat{D: api.Data{Words: make([]int64, words)}}
}

// program has these functions, no two of which are of one file, or of one item, or have frames of as many words.
func program(l ...api.Fun) api.Program {
	for at := range l {
		l[at].File, l[at].Item, l[at].F.Pad = 100-at, 200+2*at, 10+at
	}
	return api.Program{Funs: l}
}

// marks are what stands for one that is kept, k, and for one that is not, another letter.
func marks(s string) []bool {
	l := make([]bool, len(s))
	for i := range s {
		l[i] = s[i] == 'k'
	}
	return l
}

// answers are what is told of a program with a plan.
type answers struct {
	starts []int
	code   int
	fns    []api.Fn
}

func ask(p api.Program, plan api.Plan) answers {
	return answers{place.Starts(p, plan), place.Code(p, plan), place.Fns(p, plan)}
}

// holds holds the calls of code to what they answer.
func holds(t *testing.T, p api.Program, plan api.Plan, want answers) {
	t.Helper()
	if l := place.Starts(p, plan); !slices.Equal(l, want.starts) {
		t.Errorf("Starts(%+v, %+v) = %v; want %v", p, plan, l, want.starts)
	}
	if n := place.Code(p, plan); n != want.code {
		t.Errorf("Code(%+v, %+v) = %d; want %d", p, plan, n, want.code)
	}
	if l := place.Fns(p, plan); !slices.Equal(l, want.fns) {
		t.Errorf("Fns(%+v, %+v) = %+v; want %+v", p, plan, l, want.fns)
	}
}

// Example 1.
func TestExample(t *testing.T) {
	p := api.Program{Funs: []api.Fun{fun(2)}}
	holds(t, p, api.Plan{Kept: marks("k"), Checks: []int{0}}, answers{[]int{2}, 5, []api.Fn{{Start: 2, Body: 3, End: 5}}})
	holds(t, p, prologue.Full(p), answers{[]int{2}, 6, []api.Fn{{Start: 2, Body: 4, End: 6}}})
}

// fn is what is told of the at-th function of program's.
func fn(at, start, body, end int) api.Fn {
	return api.Fn{File: 100 - at, Item: 200 + 2*at, Start: start, Body: body, End: end, Frame: 10 + at}
}

// P29.1, P29.2, written out: all kept, none, all but the first, or the last one; with checks of each class, and without.
func TestNamed(t *testing.T) {
	p := program(fun(3), fun(1), fun(64), fun(2))
	for _, x := range []struct {
		kept   string
		checks []int
		want   answers
	}{
		{"kkkk", []int{0, 0, 0, 0}, answers{[]int{2, 6, 8, 73}, 76, []api.Fn{fn(0, 2, 3, 6), fn(1, 6, 7, 8), fn(2, 8, 9, 73), fn(3, 73, 74, 76)}}},
		{"kkkk", []int{1, 2, 3, 1}, answers{[]int{2, 7, 10, 76}, 80, []api.Fn{fn(0, 2, 4, 7), fn(1, 7, 9, 10), fn(2, 10, 12, 76), fn(3, 76, 78, 80)}}},
		{"kkkk", []int{3, 0, 0, 0}, answers{[]int{2, 7, 9, 74}, 77, []api.Fn{fn(0, 2, 4, 7), fn(1, 7, 8, 9), fn(2, 9, 10, 74), fn(3, 74, 75, 77)}}},
		{"kkkk", []int{0, 0, 0, 2}, answers{[]int{2, 6, 8, 73}, 77, []api.Fn{fn(0, 2, 3, 6), fn(1, 6, 7, 8), fn(2, 8, 9, 73), fn(3, 73, 75, 77)}}},
		{"-kkk", []int{1, 0, 2, 0}, answers{[]int{-1, 2, 4, 70}, 73, []api.Fn{fn(1, 2, 3, 4), fn(2, 4, 6, 70), fn(3, 70, 71, 73)}}},
		{"kkk-", []int{0, 3, 0, 1}, answers{[]int{2, 6, 9, -1}, 74, []api.Fn{fn(0, 2, 3, 6), fn(1, 6, 8, 9), fn(2, 9, 10, 74)}}},
		{"k--k", []int{1, 1, 1, 1}, answers{[]int{2, -1, -1, 7}, 11, []api.Fn{fn(0, 2, 4, 7), fn(3, 7, 9, 11)}}},
		{"--k-", []int{0, 0, 0, 0}, answers{[]int{-1, -1, 2, -1}, 67, []api.Fn{fn(2, 2, 3, 67)}}},
		{"----", []int{3, 2, 1, 3}, answers{[]int{-1, -1, -1, -1}, 2, nil}},
	} {
		holds(t, p, api.Plan{Kept: marks(x.kept), Checks: x.checks}, x.want)
	}
}

// P29.1, P29.2: Kept and Checks that are shorter, and longer, than the list of functions.
func TestLengths(t *testing.T) {
	p := program(fun(3), fun(1), fun(2))
	first := answers{[]int{2, -1, -1}, 7, []api.Fn{fn(0, 2, 4, 7)}}
	all := answers{[]int{2, 7, 9}, 12, []api.Fn{fn(0, 2, 4, 7), fn(1, 7, 8, 9), fn(2, 9, 10, 12)}}
	none := answers{[]int{-1, -1, -1}, 2, nil}
	for _, x := range []struct {
		kept   string
		checks []int
		want   answers
	}{
		{"", nil, none}, {"", []int{1, 1, 1, 1}, none}, {"---kkk", []int{1, 1, 1, 1}, none}, {"-", nil, none},
		{"k", []int{1}, first}, {"k", []int{2, 1, 1, 1, 1}, first}, {"k--kkkk", []int{3, 1, 1}, first}, {"k-", []int{1, 0}, first},
		{"kkk", []int{1}, all}, {"kkkkkkk", []int{1, 0}, all}, {"kkkk", []int{2, 0, 0, 3, 3}, all},
		{"kkk", nil, answers{[]int{2, 6, 8}, 11, []api.Fn{fn(0, 2, 3, 6), fn(1, 6, 7, 8), fn(2, 8, 9, 11)}}},
		{"kkk", []int{}, answers{[]int{2, 6, 8}, 11, []api.Fn{fn(0, 2, 3, 6), fn(1, 6, 7, 8), fn(2, 8, 9, 11)}}},
		{"-k", []int{1, 1, 1}, answers{[]int{-1, 2, -1}, 5, []api.Fn{fn(1, 2, 4, 5)}}},
		{"--k", []int{1, 1}, answers{[]int{-1, -1, 2}, 5, []api.Fn{fn(2, 2, 3, 5)}}},
	} {
		holds(t, p, api.Plan{Kept: marks(x.kept), Checks: x.checks}, x.want)
	}
	holds(t, p, api.Plan{Checks: []int{1, 1, 1}}, none)
	holds(t, p, api.Plan{}, none)
}

// P29.1, P29.2: of the plans of layer 28.
func TestPlans(t *testing.T) {
	p := program(fun(3), nosplit(fun(1)), fun(2))
	holds(t, p, prologue.Full(p), answers{[]int{2, 7, 9}, 13, []api.Fn{fn(0, 2, 4, 7), fn(1, 7, 8, 9), fn(2, 9, 11, 13)}})
	holds(t, p, prologue.Lean(p, marks("k-k"), []bool{true}), answers{[]int{2, -1, 6}, 10, []api.Fn{fn(0, 2, 3, 6), fn(2, 6, 8, 10)}})
	// What the programmer said of a check turns nothing: the plan says who has one.
	holds(t, p, api.Plan{Kept: marks("kkk"), Checks: []int{0, 1, 0}}, answers{[]int{2, 6, 9}, 12, []api.Fn{fn(0, 2, 3, 6), fn(1, 6, 8, 9), fn(2, 9, 10, 12)}})
}

// P29.1, P29.2: a check that is any number but 0 has a place; who is the entry turns nothing.
func TestCheckNumbers(t *testing.T) {
	for _, n := range numbers() {
		p := program(fun(3), fun(1))
		p.Entry = n
		want := answers{[]int{2, 7}, 9, []api.Fn{fn(0, 2, 4, 7), fn(1, 7, 8, 9)}}
		if n == 0 {
			want = answers{[]int{2, 6}, 8, []api.Fn{fn(0, 2, 3, 6), fn(1, 6, 7, 8)}}
		}
		holds(t, p, api.Plan{Kept: marks("kk"), Checks: []int{n, 0}}, want)
		holds(t, api.Program{Entry: n}, api.Plan{Kept: marks("kk"), Checks: []int{n, n}}, answers{nil, 2, nil})
	}
}

// P29.1, P29.2: of no functions, and of functions with nothing in them, which have the place of what makes their frame.
func TestNothing(t *testing.T) {
	for _, p := range []api.Program{{}, {Funs: []api.Fun{}}, {Entry: 7, Dats: make([]api.Dat, 3)}} {
		for _, plan := range []api.Plan{{}, {Kept: []bool{}, Checks: []int{}}, {Kept: marks("kk"), Checks: []int{1, 1}}} {
			holds(t, p, plan, answers{nil, 2, nil})
		}
	}
	p := api.Program{Funs: make([]api.Fun, 3)}
	holds(t, p, api.Plan{}, answers{[]int{-1, -1, -1}, 2, nil})
	holds(t, p, api.Plan{Kept: marks("kkk")}, answers{[]int{2, 3, 4}, 5, []api.Fn{{Start: 2, Body: 3, End: 3}, {Start: 3, Body: 4, End: 4}, {Start: 4, Body: 5, End: 5}}})
	holds(t, p, api.Plan{Kept: marks("k-k"), Checks: []int{1, 1, 1}}, answers{[]int{2, -1, 4}, 6, []api.Fn{{Start: 2, Body: 4, End: 4}, {Start: 4, Body: 6, End: 6}}})
}

// P29.2, Frame: slots, and Pad, which counts as from 0 to 2^20; File, and Item, as the program has them.
func TestFrames(t *testing.T) {
	for slots := range 20 {
		for _, n := range numbers() {
			f := fun(1)
			f.F.Pad, f.F.Kinds, f.File, f.Item = n, make([]int, slots), n, ^n
			want := api.Fn{File: n, Item: ^n, Start: 2, Body: 3, End: 4, Frame: slots + max(0, min(n, 1<<20))}
			if l := place.Fns(api.Program{Funs: []api.Fun{f}}, api.Plan{Kept: marks("k")}); !slices.Equal(l, []api.Fn{want}) {
				t.Errorf("of %d slots and %d: %+v; want %+v", slots, n, l, want)
			}
		}
	}
}

// addrs holds Addrs and Words to what they answer.
func addrs(t *testing.T, p api.Program, words int, want ...int) {
	t.Helper()
	if l := place.Addrs(p); !slices.Equal(l, want) {
		t.Errorf("Addrs(%+v) = %v; want %v", p, l, want)
	}
	if n := place.Words(p); n != words {
		t.Errorf("Words(%+v) = %d; want %d", p, n, words)
	}
}

// P29.1, Addrs, Words: no data, data of no words, of one, and of many.
func TestData(t *testing.T) {
	data := func(l ...int) api.Program {
		p := program(fun(3), fun(5))
		for _, n := range l {
			p.Dats = append(p.Dats, dat(n))
		}
		return p
	}
	addrs(t, data(), 0)
	addrs(t, api.Program{}, 0)
	addrs(t, api.Program{Dats: []api.Dat{}}, 0)
	addrs(t, data(0), 1, 0)
	addrs(t, data(1), 2, 0)
	addrs(t, data(32), 33, 0)
	addrs(t, data(0, 0, 0), 3, 0, 1, 2)
	addrs(t, data(3, 0, 1, 32, 0, 2), 44, 0, 4, 5, 7, 40, 41)
	addrs(t, data(254, 0, 65534, 1), 65793, 0, 255, 256, 65791)
	addrs(t, data(2, 100000, 7), 100012, 0, 3, 100004)
	addrs(t, api.Program{Dats: make([]api.Dat, 4)}, 4, 0, 1, 2, 3)
}

// P29.1, Addrs, Words: what data are, and to what they refer, turns nothing.
func TestDataNumbers(t *testing.T) {
	for _, n := range numbers() {
		d := api.Dat{File: n, Item: n, D: api.Data{Kind: n, Words: []int64{int64(n), 9}, Relocs: []api.Reloc{{At: n, Sym: n}, {At: 1}}}, Refs: []int{n, n, n}}
		addrs(t, api.Program{Dats: []api.Dat{d, {File: n, Refs: []int{n}}, d}, Entry: n}, 7, 0, 3, 4)
	}
}

// fill writes over all of l, up to its capacity.
func fill[T any](l []T, x T) {
	l = l[:cap(l)]
	for i := range l {
		l[i] = x
	}
}

// The rules: what is answered shares no memory with what is handed in, or with a later answer; nothing that is handed in is changed, or kept.
func TestShares(t *testing.T) {
	p := program(fun(3), nosplit(fun(1)), fun(2))
	p.Dats = []api.Dat{dat(2), dat(0), dat(5)}
	plan := api.Plan{Kept: marks("kkk"), Checks: []int{1, 0, 2}}
	was := fmt.Sprint(p, plan)
	all := func() string { return fmt.Sprint(ask(p, plan), place.Addrs(p), place.Words(p)) }
	want := all()
	fill(append(place.Starts(p, plan), 77), 78)
	fill(place.Starts(p, plan), 79)
	fill(append(place.Addrs(p), 77), 78)
	fill(place.Addrs(p), 79)
	fill(append(place.Fns(p, plan), api.Fn{}), api.Fn{File: 78})
	fill(place.Fns(p, plan), api.Fn{File: 79})
	if now := all(); now != want {
		t.Errorf("%s came to be %s", want, now)
	}
	if now := fmt.Sprint(p, plan); now != was {
		t.Errorf("%s came to be %s", was, now)
	}
	starts, fns, places := place.Starts(p, plan), place.Fns(p, plan), place.Addrs(p)
	want = fmt.Sprint(starts, fns, places)
	fill(plan.Kept, false)
	fill(plan.Checks, 77)
	fill(p.Funs, api.Fun{})
	fill(p.Dats, api.Dat{})
	if now := fmt.Sprint(starts, fns, places); now != want {
		t.Errorf("%s came to be %s", want, now)
	}
}
