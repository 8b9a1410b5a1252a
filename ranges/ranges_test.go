package ranges_test

import (
	"math"
	"slices"
	"testing"

	"sheerleg/api"
	"sheerleg/flow"
	"sheerleg/ranges"
)

// chance gives numbers that look as if they hung on nothing, always the same ones.
type chance uint64

func (c *chance) next(n int) int {
	*c = *c*6364136223846793005 + 1442695040888963407
	return int(*c >> 33 % chance(n))
}

var (
	nop   = api.Instr{Op: api.OpNop}
	out   = api.Instr{Op: api.OpOut}
	later = api.Instr{Op: api.OpDefer}
	last  = api.Instr{Op: api.OpReturn}
	fails = api.Instr{Op: api.OpPanic}
)

func jump(n int64) api.Instr {
	return api.Instr{Op: api.OpJump, N: n}
}

func zero(n int64) api.Instr {
	return api.Instr{Op: api.OpZero, N: n}
}

// code is a list of instructions, as a word.
func code(l ...api.Instr) []api.Instr {
	return l
}

// numbers are those that any call may be given.
func numbers() []int {
	return []int{math.MinInt, math.MinInt + 1, -1 << 32, -65, -64, -2, -1, 0, 1, 2, 3, 4, 5, 63, 64, 65, 255, 256, 1 << 31, 1 << 32, 1<<32 + 1, math.MaxInt - 1, math.MaxInt}
}

// some is code of so many instructions; many defer, and those that lead anywhere lead mostly within it.
func (c *chance) some(n int) []api.Instr {
	var l []api.Instr
	for range n {
		to := int64(c.next(n))
		if c.next(12) == 0 {
			to = int64(numbers()[c.next(len(numbers()))])
		}
		switch c.next(9) {
		case 0:
			l = append(l, last)
		case 1:
			l = append(l, fails)
		case 2:
			l = append(l, jump(to))
		case 3:
			l = append(l, zero(to))
		case 4:
			l = append(l, api.Instr{Op: api.OpDefer, A: c.next(3), N: to})
		default:
			l = append(l, api.Instr{Op: c.next(31), A: 3, N: to})
		}
	}
	return l
}

// many tells much code.
func many(tell func(l []api.Instr, c *chance)) {
	c := chance(31)
	for i := range 20000 {
		tell(c.some(i%9), &c)
	}
}

// leads tells whether the place to comes behind the i-th instruction at once.
func leads(l []api.Instr, i, to int) bool {
	return slices.Contains(flow.Next(l, i), to)
}

// pendingOracle is of each instruction whether control may come to it from behind one that defers.
func pendingOracle(l []api.Instr) []bool {
	at := make([]bool, len(l))
	for range len(l) + 1 {
		for from, x := range l {
			for to := range l {
				at[to] = at[to] || (x.Op == api.OpDefer || at[from]) && leads(l, from, to)
			}
		}
	}
	return at
}

// places are the numbers of what is true.
func places(l []bool) []int {
	var at []int
	for i, is := range l {
		if is {
			at = append(at, i)
		}
	}
	return at
}

// leastOracle is the least range that has all places, which rise.
func leastOracle(places []int) (int, int) {
	if len(places) == 0 {
		return 0, 0
	}
	return places[0], places[len(places)-1] + 1
}

// example is code, and what is said of it: the places of those that defer, and those at which calls may be pending.
type example struct {
	l              []api.Instr
	marks, pending []int
}

// examples are written out.
func examples() []example {
	return []example{
		// None that defers.
		{nil, nil, nil}, {code(), nil, nil}, {code(last), nil, nil}, {code(nop, out, zero(0), last), nil, nil}, {code(jump(0)), nil, nil}, {code(api.Instr{}, api.Instr{Op: -api.OpDefer}, api.Instr{Op: 256 + api.OpDefer}, api.Instr{Op: 1<<32 + api.OpDefer}, last), nil, nil},
		// One: it itself is not behind it, but on a circle.
		{code(later, out, last), []int{0}, []int{1, 2}}, {code(later, last), []int{0}, []int{1}}, {code(nop, later, fails), []int{1}, []int{2}}, {code(nop, nop, later, nop, last), []int{2}, []int{3, 4}},
		{code(later, jump(0)), []int{0}, []int{0, 1}}, {code(nop, later, jump(1)), []int{1}, []int{1, 2}}, {code(nop, later, jump(0)), []int{1}, []int{0, 1, 2}}, {code(nop, later, zero(0), last), []int{1}, []int{0, 1, 2, 3}}, {code(nop, nop, later, zero(1), last), []int{2}, []int{1, 2, 3, 4}},
		// Whatever its operands are.
		{code(api.Instr{Op: api.OpDefer, A: 99, B: -1, C: 77, N: 0}, nop, last), []int{0}, []int{1, 2}}, {code(api.Instr{Op: api.OpDefer, A: math.MinInt, N: 2}, nop, last), []int{0}, []int{1, 2}},
		// Several.
		{code(later, later, last), []int{0, 1}, []int{1, 2}}, {code(later, later, later), []int{0, 1, 2}, []int{1, 2}}, {code(later, nop, later, last), []int{0, 2}, []int{1, 2, 3}}, {code(nop, later, last, later, last), []int{1, 3}, []int{2, 4}}, {code(later, last, nop, nop, later, last), []int{0, 4}, []int{1, 5}}, {code(jump(3), later, last, nop, later, last), []int{1, 4}, []int{2, 5}},
		// With places between at which none may be pending.
		{code(zero(3), later, jump(4), last, last), []int{1}, []int{2, 4}}, {code(later, jump(4), nop, last, last), []int{0}, []int{1, 4}}, {code(later, zero(4), last, fails, last), []int{0}, []int{1, 2, 4}}, {code(jump(3), last, last, later, jump(1)), []int{3}, []int{1, 4}},
		// Ahead of the one that defers alone.
		{code(jump(2), last, later, jump(1)), []int{2}, []int{1, 3}}, {code(jump(4), nop, nop, last, later, jump(2)), []int{4}, []int{2, 3, 5}},
		// One to which control does not come counts as others do.
		{code(last, later, last), []int{1}, []int{2}}, {code(last, later, jump(0)), []int{1}, []int{0, 2}}, {code(jump(2), later, last), []int{1}, []int{2}},
		// Code from which control leaves: what leads beyond leads nowhere.
		{code(later), []int{0}, nil}, {code(last, later), []int{1}, nil}, {code(nop, nop, later), []int{2}, nil}, {code(later, jump(2)), []int{0}, []int{1}}, {code(later, jump(-1), last), []int{0}, []int{1}}, {code(later, zero(9), last), []int{0}, []int{1, 2}}, {code(later, jump(math.MinInt64), last), []int{0}, []int{1}}, {code(later, zero(math.MaxInt64)), []int{0}, []int{1}}, {code(later, jump(1<<32), last), []int{0}, []int{1}}, {code(later, nop), []int{0}, []int{1}},
	}
}

// ranged is a function of that code, and that range.
func ranged(l []api.Instr, from, to int) api.Func {
	return api.Func{From: from, To: to, Code: l}
}

// wants holds Check against whether all places are in the range.
func wants(t *testing.T, l []api.Instr, from, to int, pending []int) {
	t.Helper()
	want := api.OK
	for _, place := range pending {
		if place < from || place >= to {
			want = api.ErrRange
		}
	}
	if e := ranges.Check(ranged(l, from, to)); e != want {
		t.Errorf("Check(%v) of %d to %d = %v; want %v", l, from, to, e, want)
	}
}

// P18.1, Marks, written out, and of much code.
func TestMarks(t *testing.T) {
	for _, x := range examples() {
		if got := ranges.Marks(x.l); !slices.Equal(got, x.marks) {
			t.Errorf("Marks(%v) = %v; want %v", x.l, got, x.marks)
		}
	}
	for op := -2; op < 300; op++ {
		var want []int
		if op == 21 {
			want = []int{1, 3}
		}
		if got := ranges.Marks(code(nop, api.Instr{Op: op, A: 1}, last, api.Instr{Op: op})); !slices.Equal(got, want) {
			t.Errorf("Marks of operation %d: %v; want %v", op, got, want)
		}
	}
	many(func(l []api.Instr, c *chance) {
		var want []int
		for i := range l {
			if l[i].Op == api.OpDefer {
				want = append(want, i)
			}
		}
		if got := ranges.Marks(l); !slices.Equal(got, want) {
			t.Errorf("Marks(%v) = %v; want %v", l, got, want)
		}
	})
}

// P18.1, Least, written out.
func TestLeast(t *testing.T) {
	for _, c := range []struct {
		l        []api.Instr
		from, to int
	}{
		{nil, 0, 0}, {code(last), 0, 0}, {code(later, out, last), 1, 3}, {code(later, last), 1, 2}, {code(later), 0, 0}, {code(later, later), 1, 2}, {code(later, jump(0)), 0, 2}, {code(zero(0), later, jump(4), last, last), 2, 5}, {code(last, later, jump(0), last), 0, 3}, {code(jump(2), last, later, jump(1)), 1, 4}, {code(later, jump(0), last, last), 0, 2}, {code(jump(1), jump(0), later), 0, 0}, {code(last, last, later, jump(0)), 0, 4},
		{code(jump(0), later, jump(0), last), 0, 3}, {code(jump(0), jump(0), last, later, jump(0)), 0, 5},
	} {
		if from, to := ranges.Least(c.l); from != c.from || to != c.to {
			t.Errorf("Least(%v) = %d, %d; want %d, %d", c.l, from, to, c.from, c.to)
		}
	}
	for _, x := range examples() {
		from, to := ranges.Least(x.l)
		if least, most := leastOracle(x.pending); from != least || to != most {
			t.Errorf("Least(%v) = %d, %d; want %d, %d", x.l, from, to, least, most)
		}
	}
}

// P18.1: one that defers, alone, at each place of code of each length.
func TestLeastPlaces(t *testing.T) {
	for n := 1; n <= 70; n++ {
		for at := range n {
			l := slices.Repeat(code(nop), n)
			l[at] = later
			from, to := at+1, n
			if from == n {
				from, to = 0, 0
			}
			if least, most := ranges.Least(l); least != from || most != to {
				t.Errorf("of %d, defer at %d: %d, %d; want %d, %d", n, at, least, most, from, to)
			}
		}
	}
}

// P18.1, Check, written out: each range about code, and such as fall, or are from far outside.
func TestCheck(t *testing.T) {
	for _, x := range examples() {
		for from := -2; from < len(x.l)+3; from++ {
			for to := -2; to < len(x.l)+3; to++ {
				wants(t, x.l, from, to, x.pending)
			}
			for _, n := range numbers() {
				wants(t, x.l, from, n, x.pending)
				wants(t, x.l, n, from, x.pending)
			}
		}
		for _, n := range numbers() {
			for _, m := range numbers() {
				wants(t, x.l, n, m, x.pending)
			}
		}
	}
	l := code(nop, later, out, nop, last)
	for _, c := range []struct {
		from, to int
		want     api.Errno
	}{
		// Just the least one, one that lacks the first place, the last one, both; one with more.
		{2, 5, api.OK}, {3, 5, api.ErrRange}, {2, 4, api.ErrRange}, {3, 4, api.ErrRange}, {1, 5, api.OK}, {0, 5, api.OK}, {2, 6, api.OK}, {-9, 99, api.OK}, {math.MinInt, math.MaxInt, api.OK},
		// None, and such as fall.
		{0, 0, api.ErrRange}, {2, 2, api.ErrRange}, {5, 2, api.ErrRange}, {5, 5, api.ErrRange}, {math.MaxInt, math.MinInt, api.ErrRange}, {0, 2, api.ErrRange}, {5, 9, api.ErrRange},
	} {
		if e := ranges.Check(ranged(l, c.from, c.to)); e != c.want {
			t.Errorf("Check of %d to %d = %v; want %v", c.from, c.to, e, c.want)
		}
	}
}

// P18.1: Check asks for nothing but the range: what else is wrong of a function does not count.
func TestCheckForm(t *testing.T) {
	f := api.Func{Class: 99, Kinds: make([]int, 40), Pad: -1, Nosplit: true, From: 0, To: -1, Lines: []api.Line{{At: -1, Line: -1}}, Relocs: []api.Reloc{{At: 9, Sym: -1}}}
	if e := ranges.Check(f); e != api.OK {
		t.Errorf("without code: %v", e)
	}
	f.Code = code(api.Instr{Op: 99}, later, api.Instr{Op: -1, A: -1})
	if e := ranges.Check(f); e != api.ErrRange {
		t.Errorf("pending at 2: %v", e)
	}
	f.From, f.To = 2, 3
	if e := ranges.Check(f); e != api.OK {
		t.Errorf("pending at 2: %v", e)
	}
}

// P18.1, In: from From to less than To, whether there is an instruction or not.
func TestIn(t *testing.T) {
	for _, l := range [][]api.Instr{nil, code(last), code(later, out, last), slices.Repeat(code(nop), 80)} {
		for _, from := range numbers() {
			for _, to := range numbers() {
				for _, i := range numbers() {
					want := i >= from && i < to
					if got := ranges.In(ranged(l, from, to), i); got != want {
						t.Errorf("%d in %d to %d: %v", i, from, to, got)
					}
				}
			}
		}
	}
	f := ranged(code(last), 2, 4)
	for i, want := range []bool{false, false, true, true, false, false} {
		if got := ranges.In(f, i); got != want {
			t.Errorf("%d in 2 to 4: %v", i, got)
		}
	}
}

// P18.1, much code; what is handed in is not changed.
func TestMany(t *testing.T) {
	none := 0
	many(func(l []api.Instr, c *chance) {
		kept := slices.Clone(l)
		pending := places(pendingOracle(l))
		least, most := leastOracle(pending)
		if from, to := ranges.Least(l); from != least || to != most {
			t.Errorf("Least(%v) = %d, %d; want %d, %d", l, from, to, least, most)
		}
		if len(pending) == 0 {
			none++
		}
		for range 6 {
			wants(t, l, least-c.next(3)+1, most+c.next(3)-1, pending)
			wants(t, l, c.next(len(l)+1), c.next(len(l)+2), pending)
		}
		if !slices.Equal(l, kept) {
			t.Errorf("%v is changed to %v", kept, l)
		}
	})
	if none < 1000 || none > 15000 {
		t.Errorf("%d without a place at which calls may be pending", none)
	}
}

// P18.2: just ranges that have the least one within are right, or any, if that is 0 and 0.
func TestFollows(t *testing.T) {
	many(func(l []api.Instr, c *chance) {
		least, most := ranges.Least(l)
		free := least == 0 && most == 0
		if free != (len(places(flow.After(l, ranges.Marks(l)))) == 0) {
			t.Errorf("Least(%v) = %d, %d", l, least, most)
		}
		for from := -1; from < len(l)+2; from++ {
			for to := -1; to < len(l)+2; to++ {
				want := api.ErrRange
				if free || from <= least && most <= to {
					want = api.OK
				}
				if e := ranges.Check(ranged(l, from, to)); e != want {
					t.Errorf("%v, least %d to %d: Check of %d to %d = %v", l, least, most, from, to, e)
				}
			}
		}
		// The least one has those at both its ends.
		f := ranged(l, least, most)
		for _, i := range places(pendingOracle(l)) {
			if !ranges.In(f, i) {
				t.Errorf("%v, least %d to %d: %d is not in it", l, least, most, i)
			}
		}
	})
}

// The rules: no answer shares memory with another, or with what is handed in.
func TestShares(t *testing.T) {
	l := code(later, out, later, last)
	first, second := ranges.Marks(l), ranges.Marks(l)
	clear(first[:cap(first)])
	if !slices.Equal(second, []int{0, 2}) || !slices.Equal(ranges.Marks(l), []int{0, 2}) {
		t.Error("an answer shares memory with another")
	}
	clear(l)
	if !slices.Equal(second, []int{0, 2}) {
		t.Error("what is handed in is kept")
	}
}

// P7: each call ends at all arguments, and answers alike when it is asked again.
func TestEnds(t *testing.T) {
	c := chance(32)
	pick := func() int { return numbers()[c.next(len(numbers()))] }
	for i := range 3000 {
		l := c.some(i % 70)
		for j := range l {
			if c.next(4) == 0 {
				l[j] = api.Instr{Op: pick(), A: pick(), B: pick(), C: pick(), N: int64(pick())}
			}
		}
		f := ranged(l, pick(), pick())
		if !slices.Equal(ranges.Marks(l), ranges.Marks(l)) || ranges.Check(f) != ranges.Check(f) {
			t.Errorf("of %v", f)
		}
		from, to := ranges.Least(l)
		if least, most := ranges.Least(l); from != least || to != most || from < 0 || to < from || to > len(l) {
			t.Errorf("Least(%v) = %d, %d, and %d, %d", l, from, to, least, most)
		}
		if len(l) < 20 {
			wants(t, l, f.From, f.To, places(pendingOracle(l)))
		}
		for _, n := range numbers() {
			if ranges.In(f, n) != ranges.In(f, n) {
				t.Errorf("In(%v, %d)", f, n)
			}
		}
	}
}

// P7: code that is longer than it may be is gone through in time.
func TestLong(t *testing.T) {
	const n = 300000
	l := slices.Repeat(code(later), n)
	if marks := ranges.Marks(l); len(marks) != n || marks[n-1] != n-1 {
		t.Errorf("%d defer", len(marks))
	}
	if from, to := ranges.Least(l); from != 1 || to != n {
		t.Errorf("Least = %d, %d", from, to)
	}
	if e := ranges.Check(ranged(l, 1, n)); e != api.OK {
		t.Errorf("Check = %v", e)
	}
	if e := ranges.Check(ranged(l, 1, n-1)); e != api.ErrRange {
		t.Errorf("Check, without the last one, = %v", e)
	}
	l[n-1] = jump(0)
	if e := ranges.Check(ranged(l, 1, n)); e != api.ErrRange {
		t.Errorf("Check of a circle = %v", e)
	}
}
