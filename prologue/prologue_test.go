package prologue_test

import (
	"fmt"
	"math"
	"math/big"
	"slices"
	"testing"

	"sheerleg/api"
	"sheerleg/prologue"
)

// numbers are those that any call may be given.
func numbers() []int {
	return []int{math.MinInt, math.MinInt + 1, math.MinInt + 7, math.MinInt + 8, math.MinInt + 9, -1 << 32, -65536, -257, -256, -65, -9, -8, -7, -2, -1, 0, 1, 2, 3, 4, 5, 7, 8, 9, 10, 56, 63, 64, 65, 66, 128, 255, 256, 4096, 1 << 20, 1<<20 + 1, 1 << 31, 1 << 32, 1<<32 + 1, 1 << 62, math.MaxInt - 9, math.MaxInt - 8, math.MaxInt - 7, math.MaxInt - 1, math.MaxInt}
}

// classes are all classes, and numbers that are none.
func classes() []int {
	return append(numbers(), 4, 5, 6)
}

// fun is a function with a frame of so many words, and so many instructions.
func fun(frame, instructions int) api.Fun {
	return api.Fun{F: api.Func{Pad: frame, Code: make([]api.Instr, instructions)}}
}

// nosplit is f, of which the programmer said that it has no check.
func nosplit(f api.Fun) api.Fun {
	f.F.Nosplit = true
	return f
}

func program(l ...api.Fun) api.Program {
	return api.Program{Funs: l}
}

func same(a, b api.Plan) bool {
	return slices.Equal(a.Kept, b.Kept) && slices.Equal(a.Checks, b.Checks)
}

// P28.1, Least: frames just at Small, and at Big, and one more; 0, and below; example 1.
func TestLeast(t *testing.T) {
	for frame, want := range map[int]int{0: 1, 1: 1, 7: 1, 8: 1, 9: 2, 10: 2, 63: 2, 64: 2, 65: 3, 66: 3, 4096: 3, 1 << 20: 3, math.MaxInt: 3, -1: 1, -9: 1, -65: 1, math.MinInt: 1} {
		if class := prologue.Least(frame); class != want {
			t.Errorf("Least(%d) = %d; want %d", frame, class, want)
		}
	}
	for frame := -300; frame < 300; frame++ {
		want := api.CheckSmall
		switch {
		case frame > 64:
			want = api.CheckHuge
		case frame > 8:
			want = api.CheckBig
		}
		if class := prologue.Least(frame); class != want {
			t.Errorf("Least(%d) = %d; want %d", frame, class, want)
		}
	}
}

// P28.1, Cost: a class' number; nothing of what is none.
func TestCost(t *testing.T) {
	for _, class := range classes() {
		want := 0
		if slices.Contains([]int{1, 2, 3}, class) {
			want = class
		}
		if cost := prologue.Cost(class); cost != want {
			t.Errorf("Cost(%d) = %d; want %d", class, cost, want)
		}
	}
}

// P28.1, Passes, written out: sp just at guard, below it, above it by the frame less Small, and one less.
func TestPassesNamed(t *testing.T) {
	for _, x := range []struct {
		sp, guard, frame int
		want             [4]bool // by classes
	}{
		// At guard, and one below, and one above.
		{100, 100, 0, [4]bool{true, true, true, true}},
		{99, 100, 0, [4]bool{true, false, false, false}},
		{101, 100, 0, [4]bool{true, true, true, true}},
		{100, 100, 8, [4]bool{true, true, true, true}},
		{99, 100, 8, [4]bool{true, false, false, false}},
		{99, 100, 7, [4]bool{true, false, false, false}},
		{92, 100, 0, [4]bool{true, false, false, false}},
		{99, 100, -1000, [4]bool{true, false, false, false}},
		{100, 100, -1000, [4]bool{true, true, true, true}},
		// Above guard by the frame less Small, and one less, and one more.
		{100, 100, 9, [4]bool{true, true, false, false}},
		{101, 100, 9, [4]bool{true, true, true, true}},
		{102, 100, 9, [4]bool{true, true, true, true}},
		{155, 100, 64, [4]bool{true, true, false, false}},
		{156, 100, 64, [4]bool{true, true, true, true}},
		{156, 100, 65, [4]bool{true, true, false, false}},
		{157, 100, 65, [4]bool{true, true, true, true}},
		{4187, 100, 4096, [4]bool{true, true, false, false}},
		{4188, 100, 4096, [4]bool{true, true, true, true}},
		{0, 0, 9, [4]bool{true, true, false, false}},
		{-5, -6, 9, [4]bool{true, true, true, true}},
		{-6, -6, 9, [4]bool{true, true, false, false}},
		{-7, -6, 9, [4]bool{true, false, false, false}},
		{1, -1, 10, [4]bool{true, true, true, true}},
		{1, -1, 11, [4]bool{true, true, false, false}},
		// Nothing goes round.
		{math.MaxInt, math.MinInt, math.MaxInt, [4]bool{true, true, true, true}},
		{math.MaxInt, math.MinInt, 64, [4]bool{true, true, true, true}},
		{math.MinInt, math.MaxInt, 64, [4]bool{true, false, false, false}},
		{math.MinInt, math.MaxInt, math.MinInt, [4]bool{true, false, false, false}},
		{0, math.MinInt, math.MaxInt, [4]bool{true, true, true, true}},
		{-1, math.MinInt, math.MaxInt, [4]bool{true, true, true, true}},
		{-9, math.MinInt, math.MaxInt, [4]bool{true, true, true, true}},
		{-10, math.MinInt, math.MaxInt, [4]bool{true, true, false, false}},
		{math.MaxInt, 8, math.MaxInt, [4]bool{true, true, true, true}},
		{math.MaxInt, 9, math.MaxInt, [4]bool{true, true, false, false}},
		{math.MinInt, math.MinInt, math.MinInt, [4]bool{true, true, true, true}},
		{math.MinInt, math.MinInt, math.MinInt + 7, [4]bool{true, true, true, true}},
		{math.MaxInt, math.MaxInt, math.MinInt, [4]bool{true, true, true, true}},
		{math.MaxInt - 1, math.MaxInt, math.MinInt, [4]bool{true, false, false, false}},
		{math.MinInt, math.MinInt + 1, 0, [4]bool{true, false, false, false}},
	} {
		for class, want := range x.want {
			if got := prologue.Passes(class, x.sp, x.guard, x.frame); got != want {
				t.Errorf("Passes(%d, %d, %d, %d) = %v", class, x.sp, x.guard, x.frame, got)
			}
		}
	}
}

// passes reckons with numbers of any size.
func passes(class, sp, guard, frame int) bool {
	distance := new(big.Int).Sub(big.NewInt(int64(sp)), big.NewInt(int64(guard)))
	least := new(big.Int).Sub(big.NewInt(int64(frame)), big.NewInt(8))
	switch class {
	case 0:
		return true
	case 1:
		return distance.Sign() >= 0
	case 2, 3:
		return distance.Sign() >= 0 && distance.Cmp(least) >= 0
	}
	return false
}

// places tells many places, guards and frames, with those just where a check begins to pass.
func places(tell func(sp, guard, frame int)) {
	for _, guard := range numbers() {
		for _, frame := range numbers() {
			for _, sp := range numbers() {
				tell(sp, guard, frame)
			}
			for by := -2; by < 3; by++ {
				// What goes round here is a number like any other.
				tell(guard+by, guard, frame)
				tell(guard+frame-8+by, guard, frame)
			}
		}
	}
}

// P28.1, Passes: of each class, also of numbers that are none, at the least and the greatest numbers.
func TestPasses(t *testing.T) {
	places(func(sp, guard, frame int) {
		for _, class := range []int{0, 1, 2, 3} {
			if got := prologue.Passes(class, sp, guard, frame); got != passes(class, sp, guard, frame) {
				t.Errorf("Passes(%d, %d, %d, %d) = %v", class, sp, guard, frame, got)
			}
		}
	})
	for _, class := range classes() {
		for _, n := range numbers() {
			for _, x := range [][3]int{{n, n, 0}, {n, 0, 0}, {math.MaxInt, math.MinInt, n}, {n, n, n}} {
				if got := prologue.Passes(class, x[0], x[1], x[2]); got != passes(class, x[0], x[1], x[2]) {
					t.Errorf("Passes(%d, %v) = %v", class, x, got)
				}
			}
		}
	}
}

// P28.4: behind a check of the least class, or a greater one, that passed, the frame ends at most Small words below guard; all these pass alike.
func TestPassesFollows(t *testing.T) {
	passed := 0
	places(func(sp, guard, frame int) {
		least := prologue.Least(frame)
		is := prologue.Passes(least, sp, guard, frame)
		for class := least; class <= api.CheckHuge; class++ {
			if prologue.Passes(class, sp, guard, frame) != is {
				t.Errorf("of sp %d, guard %d, frame %d: the classes %d and %d do not pass alike", sp, guard, frame, least, class)
			}
		}
		if !is {
			return
		}
		passed++
		end := new(big.Int).Sub(big.NewInt(int64(sp)), big.NewInt(int64(frame)))
		if lowest := new(big.Int).Sub(big.NewInt(int64(guard)), big.NewInt(8)); end.Cmp(lowest) < 0 {
			t.Errorf("sp %d, guard %d, frame %d: it ends at %v", sp, guard, frame, end)
		}
	})
	if passed < 10000 {
		t.Errorf("%d passed", passed)
	}
}

// P28.2, Full: all are kept, be they called, or not; huge of whatever frame.
func TestFull(t *testing.T) {
	p := program(fun(0, 1), nosplit(fun(99, 2)), fun(99, 0), fun(-5, 1), nosplit(fun(0, 0)), fun(9, 1), api.Fun{})
	want := api.Plan{Kept: []bool{true, true, true, true, true, true, true}, Checks: []int{3, 0, 3, 3, 0, 3, 3}}
	for _, entry := range numbers() {
		p.Entry = entry
		if plan := prologue.Full(p); !same(plan, want) {
			t.Errorf("Full(%+v) = %+v; want %+v", p, plan, want)
		}
		if plan := prologue.Full(api.Program{Entry: entry, Dats: make([]api.Dat, 3)}); !same(plan, api.Plan{}) {
			t.Errorf("of nothing: %+v", plan)
		}
	}
	if plan := prologue.Full(api.Program{Funs: []api.Fun{}}); !same(plan, api.Plan{}) {
		t.Errorf("of nothing: %+v", plan)
	}
}

// P28.2, Lean: who is kept, and who is free, in each way; also lists that are shorter, and longer.
func TestLean(t *testing.T) {
	// What the programmer said turns nothing: who is free is told.
	p := program(fun(8, 1), nosplit(fun(9, 1)), fun(64, 1), nosplit(fun(65, 1)), fun(-1, 1))
	least := []int{1, 2, 2, 3, 1}
	marks := func(many, bits int) []bool {
		l := make([]bool, many)
		for i := range l {
			l[i] = bits>>i&1 == 1
		}
		return l
	}
	for many := range 8 {
		for bits := range 1 << many {
			for other := range 8 {
				turned := ^bits * 5 >> 1
				for _, x := range [][2][]bool{{marks(many, bits), marks(other, turned)}, {marks(other, turned), marks(many, bits)}} {
					kept, free := x[0], x[1]
					var want api.Plan
					for at := range p.Funs {
						want.Kept = append(want.Kept, at < len(kept) && kept[at])
						check := least[at]
						if at < len(free) && free[at] {
							check = 0
						}
						want.Checks = append(want.Checks, check)
					}
					if plan := prologue.Lean(p, kept, free); !same(plan, want) {
						t.Fatalf("Lean(%+v, %v, %v) = %+v; want %+v", p, kept, free, plan, want)
					}
				}
			}
		}
	}
	if plan := prologue.Lean(p, nil, nil); !same(plan, api.Plan{Kept: make([]bool, 5), Checks: least}) {
		t.Errorf("of nil lists: %+v", plan)
	}
	for _, l := range [][]bool{nil, {}, {true}, {false, true, true}} {
		if plan := prologue.Lean(api.Program{}, l, l); !same(plan, api.Plan{}) {
			t.Errorf("of nothing: %+v", plan)
		}
	}
}

// P28.2, Lean: the least check is that of the frame: slots, and Pad, which counts as from 0 to 2^20.
func TestLeanFrames(t *testing.T) {
	for slots := range 70 {
		for _, pad := range append(numbers(), 57, 58) {
			f := fun(pad, 1)
			f.F.Kinds = make([]int, slots)
			want := 1
			switch frame := slots + max(0, min(pad, 1<<20)); {
			case frame > 64:
				want = 3
			case frame > 8:
				want = 2
			}
			if plan := prologue.Lean(program(f), []bool{true}, nil); !same(plan, api.Plan{Kept: []bool{true}, Checks: []int{want}}) {
				t.Errorf("of %d slots and the pad %d: %+v; want %d", slots, pad, plan, want)
			}
			if plan := prologue.Lean(program(f), nil, []bool{true}); !same(plan, api.Plan{Kept: []bool{false}, Checks: []int{0}}) {
				t.Errorf("of %d slots and the pad %d, free: %+v", slots, pad, plan)
			}
		}
	}
}

// P28.3: of one that is there, and kept, its code, one, and one, if it has a check.
func TestSize(t *testing.T) {
	p := program(fun(0, 2), nosplit(fun(99, 5)), fun(9, 0), api.Fun{}, fun(0, 64), fun(0, 1), fun(0, 3))
	kept := []bool{true, true, true, true, true, false}
	sizes := func(plan api.Plan) []int {
		var l []int
		for i := range p.Funs {
			l = append(l, prologue.Size(p, plan, i))
		}
		return l
	}
	for _, x := range []struct {
		plan api.Plan
		want []int
	}{
		{api.Plan{Kept: kept, Checks: []int{1, 0, 2, 0, 3, 1, 1}}, []int{4, 6, 2, 1, 66, 0, 0}},
		{api.Plan{Kept: kept, Checks: []int{0, 3, 0, 1, 0, 0, 0}}, []int{3, 7, 1, 2, 65, 0, 0}},
		// Checks, and Kept, that are shorter, and longer.
		{api.Plan{Kept: kept, Checks: []int{1, 1, 1}}, []int{4, 7, 2, 1, 65, 0, 0}},
		{api.Plan{Kept: kept, Checks: []int{}}, []int{3, 6, 1, 1, 65, 0, 0}},
		{api.Plan{Kept: kept}, []int{3, 6, 1, 1, 65, 0, 0}},
		{api.Plan{Kept: []bool{false, true}, Checks: []int{1, 1, 1, 1, 1, 1, 1, 1, 1}}, []int{0, 7, 0, 0, 0, 0, 0}},
		{api.Plan{Kept: []bool{}, Checks: []int{1, 1, 1}}, []int{0, 0, 0, 0, 0, 0, 0}},
		{api.Plan{Checks: []int{1, 1, 1}}, []int{0, 0, 0, 0, 0, 0, 0}},
		{api.Plan{}, []int{0, 0, 0, 0, 0, 0, 0}},
		{api.Plan{Kept: []bool{true, true, true, true, true, true, true, true, true}, Checks: []int{1, 1, 1, 1, 1, 1, 1, 1, 1}}, []int{4, 7, 2, 2, 66, 3, 5}},
		// Of the program's own plans.
		{prologue.Full(p), []int{4, 6, 2, 2, 66, 3, 5}},
		{prologue.Lean(p, kept, []bool{true, false, true}), []int{3, 7, 1, 2, 66, 0, 0}},
	} {
		if l := sizes(x.plan); !slices.Equal(l, x.want) {
			t.Errorf("%+v: %v; want %v", x.plan, l, x.want)
		}
	}
}

// P28.3: any number but 0 is a check; at a number that there is not, nothing.
func TestSizeNumbers(t *testing.T) {
	p := program(fun(0, 2), fun(0, 3))
	for _, n := range classes() {
		want := 4
		if n == 0 {
			want = 3
		}
		if size := prologue.Size(p, api.Plan{Kept: []bool{true, true}, Checks: []int{n, 1 - min(1, max(n, 0))}}, 0); size != want {
			t.Errorf("with the check %d: %d; want %d", n, size, want)
		}
		plan := api.Plan{Kept: slices.Repeat([]bool{true}, 99), Checks: slices.Repeat([]int{1}, 99)}
		want = map[int]int{0: 4, 1: 5}[n]
		if size := prologue.Size(p, plan, n); size != want {
			t.Errorf("Size of %d = %d; want %d", n, size, want)
		}
		if size := prologue.Size(api.Program{Entry: n}, plan, n); size != 0 {
			t.Errorf("Size of %d of nothing = %d", n, size)
		}
		if size := prologue.Size(p, api.Plan{}, n); size != 0 {
			t.Errorf("Size of %d with no plan = %d", n, size)
		}
	}
}

// fill writes over all of l, up to its capacity.
func fill[T any](l []T, x T) {
	l = l[:cap(l)]
	for i := range l {
		l[i] = x
	}
}

// The rules: plans share no memory with what is handed in, or with later ones; nothing that is handed in is changed, or kept.
func TestShares(t *testing.T) {
	p := program(fun(5, 1), nosplit(fun(9, 2)), fun(99, 1))
	kept, free := []bool{true, false, true}, []bool{false, true, false}
	both := []bool{true, true, false}
	was := fmt.Sprint(p, kept, free, both)
	for _, call := range []func() api.Plan{
		func() api.Plan { return prologue.Full(p) },
		func() api.Plan { return prologue.Lean(p, kept, free) },
		func() api.Plan { return prologue.Lean(p, both, both) },
	} {
		first, second := call(), call()
		want := fmt.Sprint(second)
		fill(append(first.Kept, true), false)
		fill(append(first.Checks, 77), 78)
		fill(first.Kept, false)
		fill(first.Checks, 79)
		if third := call(); fmt.Sprint(second) != want || fmt.Sprint(third) != want {
			t.Errorf("%v, %v; want %s", second, third, want)
		}
		prologue.Size(p, second, 1)
		if now := fmt.Sprint(second); now != want {
			t.Errorf("%s came to be %s", want, now)
		}
	}
	if now := fmt.Sprint(p, kept, free, both); now != was {
		t.Errorf("%s came to be %s", was, now)
	}
	full, lean := prologue.Full(p), prologue.Lean(p, kept, free)
	want := fmt.Sprint(full, lean)
	fill(kept, false)
	fill(free, true)
	fill(p.Funs, api.Fun{})
	if now := fmt.Sprint(full, lean); now != want {
		t.Errorf("%s came to be %s", want, now)
	}
}

// P7: each call ends, at all arguments, and tells of all functions.
func TestEnds(t *testing.T) {
	for _, n := range numbers() {
		f := fun(n, 1)
		f.File, f.Item, f.Refs = n, n, []int{n, n}
		f.F.Class, f.F.Kinds, f.F.From, f.F.To, f.F.Relocs, f.F.Lines = n, []int{n}, n, n, []api.Reloc{{At: n, Sym: n}}, []api.Line{{At: n, Line: n}}
		p := api.Program{Funs: []api.Fun{f, {}, nosplit(f)}, Dats: []api.Dat{{}, {Refs: []int{n}}}, Entry: n}
		for _, m := range numbers() {
			for _, marks := range [][]bool{nil, {}, {true}, {true, true, true, true}} {
				plan := prologue.Lean(p, marks, marks)
				if len(plan.Kept) != 3 || len(plan.Checks) != 3 {
					t.Errorf("Lean of %d: %+v", n, plan)
				}
				if size := prologue.Size(p, api.Plan{Kept: marks, Checks: []int{n, m, n}}, m); size < 0 || size > 3 {
					t.Errorf("Size of %d, %d: %d", n, m, size)
				}
			}
			for _, k := range numbers() {
				prologue.Passes(n, m, k, n)
				prologue.Passes(m, k, n, m)
			}
		}
		if plan := prologue.Full(p); !same(plan, api.Plan{Kept: []bool{true, true, true}, Checks: []int{3, 3, 0}}) {
			t.Errorf("Full of %d: %+v", n, plan)
		}
		prologue.Least(n)
		prologue.Cost(n)
	}
	great := make([]api.Fun, 1<<17)
	if plan := prologue.Full(program(great...)); len(plan.Kept) != len(great) {
		t.Errorf("Full of many: %d", len(plan.Kept))
	}
}
