package flow_test

import (
	"math"
	"slices"
	"testing"

	"sheerleg/api"
	"sheerleg/flow"
)

const most = 64

// chance gives numbers that look as if they hung on nothing, always the same ones.
type chance uint64

func (c *chance) next(n int) int {
	*c = *c*6364136223846793005 + 1442695040888963407
	return int(*c >> 33 % chance(n))
}

var (
	nop   = api.Instr{Op: api.OpNop}
	out   = api.Instr{Op: api.OpOut}
	last  = api.Instr{Op: api.OpReturn}
	fails = api.Instr{Op: api.OpPanic}
)

func jump(n int64) api.Instr {
	return api.Instr{Op: api.OpJump, N: n}
}

func zero(n int64) api.Instr {
	return api.Instr{Op: api.OpZero, A: 1, N: n}
}

// code is a list of instructions, as a word.
func code(l ...api.Instr) []api.Instr {
	return l
}

// numbers are those that any call may be given.
func numbers() []int {
	return []int{math.MinInt, math.MinInt + 1, -1 << 32, -65, -64, -2, -1, 0, 1, 2, 3, 63, 64, 65, 255, 256, 1 << 31, 1 << 32, 1<<32 + 1, math.MaxInt - 1, math.MaxInt}
}

// noOps are numbers of no operation.
func noOps() []int {
	return []int{math.MinInt, -1<<32 + api.OpJump, -api.OpJump, -1, 0, 29, 30, 64, 255, 256 + api.OpJump, 256 + api.OpReturn, 1<<32 + api.OpPanic, math.MaxInt}
}

// some is code of so many instructions; those that lead anywhere lead mostly within it.
func (c *chance) some(n int) []api.Instr {
	var l []api.Instr
	for range n {
		to := int64(c.next(n))
		if c.next(12) == 0 {
			to = int64(numbers()[c.next(len(numbers()))])
		}
		switch c.next(8) {
		case 0:
			l = append(l, last)
		case 1:
			l = append(l, fails)
		case 2, 3:
			l = append(l, jump(to))
		case 4, 5:
			l = append(l, zero(to))
		default:
			l = append(l, api.Instr{Op: c.next(31), A: 3, N: to})
		}
	}
	return l
}

// many tells much code.
func many(tell func(l []api.Instr, c *chance)) {
	c := chance(14)
	for i := range 20000 {
		tell(c.some(i%9), &c)
	}
}

// leads tells by the words whether to comes behind the instruction at i.
func leads(l []api.Instr, i, to int) bool {
	switch l[i].Op {
	case api.OpJump:
		return int64(to) == l[i].N
	case api.OpZero:
		return int64(to) == l[i].N || to == i+1
	case api.OpPanic, api.OpReturn:
		return false
	}
	return to == i+1
}

// afterOracle closes what comes behind what.
func afterOracle(l []api.Instr, starts func(i int) bool) []bool {
	at := make([]bool, len(l))
	for i := range l {
		at[i] = starts(i)
	}
	for range l {
		for from := range l {
			for to := range l {
				at[to] = at[to] || at[from] && leads(l, from, to)
			}
		}
	}
	return at
}

// from is which instructions come behind those marks at once.
func from(l []api.Instr, marks []int) func(i int) bool {
	return func(i int) bool {
		return slices.ContainsFunc(marks, func(mark int) bool { return mark >= 0 && mark < len(l) && leads(l, mark, i) })
	}
}

// P14.1, written out: of each of these the places that come behind the instruction at 2 of 4.
func TestNext(t *testing.T) {
	for _, c := range []struct {
		x    api.Instr
		want []int
	}{
		// To another place, to its own, to the next one, to the first, to the last, to those beyond.
		{jump(1), []int{1}}, {jump(2), []int{2}}, {jump(3), []int{3}}, {jump(0), []int{0}}, {jump(4), []int{4}}, {jump(-1), []int{-1}}, {jump(100), []int{100}}, {jump(math.MinInt64), []int{math.MinInt}}, {jump(math.MaxInt64), []int{math.MaxInt}},
		{zero(1), []int{1, 3}}, {zero(2), []int{2, 3}}, {zero(3), []int{3}}, {zero(0), []int{0, 3}}, {zero(4), []int{3, 4}}, {zero(-1), []int{-1, 3}}, {zero(100), []int{3, 100}}, {zero(math.MinInt64), []int{math.MinInt, 3}}, {zero(math.MaxInt64), []int{3, math.MaxInt}},
		{fails, nil}, {last, nil}, {nop, []int{3}}, {out, []int{3}},
		// Operands of any numbers: N alone counts, and of jump and zero alone.
		{api.Instr{Op: api.OpJump, A: -1, B: math.MaxInt, C: math.MinInt, N: 1}, []int{1}},
		{api.Instr{Op: api.OpZero, A: -1, B: math.MaxInt, C: math.MinInt, N: 1}, []int{1, 3}},
		{api.Instr{Op: api.OpPanic, A: -1, B: math.MaxInt, C: math.MinInt, N: 1}, nil},
		{api.Instr{Op: api.OpReturn, A: -1, B: math.MaxInt, C: math.MinInt, N: 1}, nil},
		{api.Instr{Op: api.OpNop, A: -1, B: math.MaxInt, C: math.MinInt, N: math.MinInt64}, []int{3}},
		{api.Instr{}, []int{3}},
	} {
		if got := flow.Next(code(nop, nop, c.x, nop), 2); !slices.Equal(got, c.want) {
			t.Errorf("behind %v: %v; want %v", c.x, got, c.want)
		}
		// It hangs on no other instruction, and not on whether there are some behind it.
		if got := flow.Next(code(last, jump(9), c.x), 2); !slices.Equal(got, c.want) {
			t.Errorf("behind %v, the last one: %v; want %v", c.x, got, c.want)
		}
	}
}

// P14.1, each operation, and those that there are not.
func TestNextOperations(t *testing.T) {
	ops := noOps()
	for op := 1; op <= 28; op++ {
		ops = append(ops, op)
	}
	for _, op := range ops {
		want := []int{2}
		switch op {
		case api.OpJump:
			want = []int{0}
		case api.OpZero:
			want = []int{0, 2}
		case api.OpPanic, api.OpReturn:
			want = nil
		}
		if got := flow.Next(code(nop, api.Instr{Op: op}), 1); !slices.Equal(got, want) {
			t.Errorf("behind operation %d: %v; want %v", op, got, want)
		}
	}
}

// P14.1, where there is no instruction nothing comes behind it.
func TestNextNone(t *testing.T) {
	for n := range 70 {
		l := slices.Repeat(code(nop), n)
		for _, i := range append(numbers(), n-1, n, n+1) {
			var want []int
			if i >= 0 && i < n {
				want = []int{i + 1}
			}
			if got := flow.Next(l, i); !slices.Equal(got, want) {
				t.Errorf("of %d instructions, behind %d: %v; want %v", n, i, got, want)
			}
		}
	}
}

// P14.1, much code.
func TestNextMany(t *testing.T) {
	many(func(l []api.Instr, c *chance) {
		for i, x := range l {
			var want []int
			for _, to := range append([]int{int(x.N)}, i+1) {
				if leads(l, i, to) && !slices.Contains(want, to) {
					want = append(want, to)
				}
			}
			slices.Sort(want)
			if got := flow.Next(l, i); !slices.Equal(got, want) {
				t.Errorf("of %v, behind %d: %v; want %v", l, i, got, want)
			}
		}
	})
}

// P14.1, what Check says, written out.
func TestCheck(t *testing.T) {
	full := slices.Repeat(code(nop), most-1)
	for i, c := range []struct {
		l    []api.Instr
		want api.Errno
	}{
		{nil, api.ErrForm}, {code(), api.ErrForm},
		// The last instruction: behind some comes the next place, which is not there.
		{code(last), api.OK}, {code(fails), api.OK}, {code(jump(0)), api.OK}, {code(nop, last), api.OK}, {code(out, nop, fails), api.OK}, {code(nop, nop, jump(1)), api.OK},
		{code(nop), api.ErrFlow}, {code(zero(0)), api.ErrFlow}, {code(last, out), api.ErrFlow}, {code(fails, fails, zero(0)), api.ErrFlow}, {code(last, zero(2)), api.ErrFlow}, {code(api.Instr{}), api.ErrFlow}, {code(api.Instr{Op: math.MaxInt}), api.ErrFlow}, {code(last, api.Instr{Op: api.OpBottom}), api.ErrFlow}, {code(last, api.Instr{Op: api.OpDriver}), api.ErrFlow},
		{code(api.Instr{}, last), api.OK}, {code(api.Instr{Op: 29, N: 900}, last), api.OK}, {code(api.Instr{Op: api.OpSet, A: 300, N: -1}, last), api.OK}, {code(api.Instr{Op: api.OpCall, N: 900}, last), api.OK},
		// Where jump and zero lead: first, own, next, last, beyond, wherever they stand.
		{code(jump(0), last), api.OK}, {code(jump(1), last), api.OK}, {code(jump(2), last), api.ErrFlow}, {code(jump(-1), last), api.ErrFlow}, {code(jump(math.MinInt64), last), api.ErrFlow}, {code(jump(math.MaxInt64), last), api.ErrFlow}, {code(jump(1<<32), last), api.ErrFlow}, {code(jump(-1<<32), last), api.ErrFlow},
		{code(zero(0), last), api.OK}, {code(zero(1), last), api.OK}, {code(zero(2), last), api.ErrFlow}, {code(zero(-1), last), api.ErrFlow}, {code(zero(math.MinInt64), last), api.ErrFlow}, {code(zero(math.MaxInt64), last), api.ErrFlow}, {code(zero(1<<32), last), api.ErrFlow},
		{code(nop, nop, zero(3), jump(0)), api.OK}, {code(nop, nop, zero(4), jump(0)), api.ErrFlow}, {code(nop, nop, zero(3), jump(4)), api.ErrFlow}, {code(nop, zero(-1), nop, jump(0)), api.ErrFlow},
		// Code to which control does not come counts, too.
		{code(last, jump(2)), api.ErrFlow}, {code(last, jump(-1), last), api.ErrFlow}, {code(jump(2), zero(9), last), api.ErrFlow}, {code(jump(0), nop), api.ErrFlow}, {code(last, last), api.OK},
		// How many there are.
		{append(slices.Clone(full), last), api.OK}, {append(slices.Clone(full), jump(0)), api.OK}, {append(slices.Clone(full), jump(most-1)), api.OK}, {append(slices.Clone(full), jump(most)), api.ErrFlow}, {append(slices.Clone(full), nop), api.ErrFlow}, {append(slices.Clone(full), zero(0)), api.ErrFlow},
		{append(slices.Clone(full), last, last), api.ErrLong}, {append(slices.Clone(full), nop, nop), api.ErrLong}, {append(slices.Clone(full), jump(-1), jump(most+1)), api.ErrLong}, {slices.Repeat(code(last), 100000), api.ErrLong}, {slices.Repeat(code(jump(-1)), most+1), api.ErrLong}, {slices.Repeat(code(jump(-1)), most), api.ErrFlow}, {slices.Repeat(code(jump(most-1)), most), api.OK},
	} {
		if got := flow.Check(c.l); got != c.want {
			t.Errorf("%d: Check of %d instructions = %v; want %v", i, len(c.l), got, c.want)
		}
	}
}

// P14.1, one that leads beyond, alone, at each place of code of each length.
func TestCheckPlaces(t *testing.T) {
	for n := 1; n <= most+1; n++ {
		l := slices.Repeat(code(jump(0)), n)
		for i := range l {
			for _, to := range append(numbers(), n-1, n, n+1) {
				l[i] = jump(int64(to))
				want := api.OK
				if to < 0 || to >= n {
					want = api.ErrFlow
				}
				if n > most {
					want = api.ErrLong
				}
				if got := flow.Check(l); got != want {
					t.Errorf("of %d instructions, jump at %d to %d: %v; want %v", n, i, to, got, want)
				}
			}
			l[i] = jump(0)
		}
	}
}

// P14.1, much code, held against Next.
func TestCheckMany(t *testing.T) {
	many(func(l []api.Instr, c *chance) {
		want := api.OK
		for i := range l {
			if slices.ContainsFunc(flow.Next(l, i), func(to int) bool { return to < 0 || to >= len(l) }) {
				want = api.ErrFlow
			}
		}
		if len(l) == 0 {
			want = api.ErrForm
		}
		if got := flow.Check(l); got != want {
			t.Errorf("Check(%v) = %v; want %v", l, got, want)
		}
	})
}

// places are the numbers of what is true.
func places(l []bool) []int {
	var at []int
	for i, is := range l {
		if is {
			at = append(at, i)
		}
	}
	return at
}

// P14.2, Live, written out: the places to which control may come.
func TestLive(t *testing.T) {
	for _, c := range []struct {
		l    []api.Instr
		want []int
	}{
		{nil, nil}, {code(), nil},
		{code(last), []int{0}}, {code(fails), []int{0}}, {code(nop), []int{0}}, {code(api.Instr{}), []int{0}},
		{code(zero(0), last), []int{0, 1}}, {code(nop, nop, last), []int{0, 1, 2}},
		// Code to which control does not come.
		{code(last, nop, last), []int{0}}, {code(fails, last), []int{0}}, {code(jump(2), nop, last), []int{0, 2}}, {code(jump(2), last, last, nop, jump(3)), []int{0, 2}}, {code(last, jump(0)), []int{0}},
		{code(zero(3), last, nop, last), []int{0, 1, 3}}, {code(nop, jump(3), nop, fails, nop), []int{0, 1, 3}},
		// Circles, and ways back.
		{code(jump(0), last), []int{0}}, {code(jump(1), jump(0), nop), []int{0, 1}}, {code(jump(3), out, last, jump(1)), []int{0, 1, 2, 3}}, {code(nop, zero(0), jump(1), last), []int{0, 1, 2}}, {code(zero(2), jump(0), jump(1), nop), []int{0, 1, 2}},
		// What leads beyond leads nowhere.
		{code(jump(2), last), []int{0}}, {code(zero(-1), last), []int{0, 1}}, {code(zero(math.MaxInt64), fails, nop), []int{0, 1}}, {code(jump(math.MinInt64), last), []int{0}}, {code(jump(1<<32), last), []int{0}},
	} {
		got := flow.Live(c.l)
		if len(got) != len(c.l) || !slices.Equal(places(got), c.want) {
			t.Errorf("Live(%v) = %v; want %v", c.l, got, c.want)
		}
	}
}

// P14.2, After, written out: the places to which control may come from behind the marks.
func TestAfter(t *testing.T) {
	line := code(nop, nop, nop, last)
	ring := code(nop, nop, jump(0), nop, jump(3))
	fork := code(zero(3), out, last, out, jump(6), nop, fails)
	for _, c := range []struct {
		l           []api.Instr
		marks, want []int
	}{
		{nil, nil, nil}, {nil, []int{0, 1, -1}, nil}, {code(), []int{0}, nil},
		// No marks, and marks that are no places: nothing.
		{line, nil, nil}, {line, []int{}, nil}, {line, []int{-1, 4, math.MinInt, math.MaxInt, 1 << 32, -4}, nil},
		// A mark itself is not behind it, but on a circle.
		{line, []int{0}, []int{1, 2, 3}}, {line, []int{1}, []int{2, 3}}, {line, []int{2}, []int{3}}, {line, []int{3}, nil},
		{line, []int{2, 0}, []int{1, 2, 3}}, {line, []int{0, 2, 2, 0}, []int{1, 2, 3}}, {line, []int{2, 2}, []int{3}}, {line, []int{-1, 2, 4, 2, math.MaxInt}, []int{3}},
		{ring, []int{0}, []int{0, 1, 2}}, {ring, []int{1}, []int{0, 1, 2}}, {ring, []int{2}, []int{0, 1, 2}}, {ring, []int{3}, []int{3, 4}}, {ring, []int{4, 2}, []int{0, 1, 2, 3, 4}},
		{code(jump(0)), []int{0}, []int{0}}, {code(zero(0), last), []int{0}, []int{0, 1}}, {code(zero(1), last), []int{0}, []int{1}},
		{fork, []int{0}, []int{1, 2, 3, 4, 6}}, {fork, []int{1}, []int{2}}, {fork, []int{3}, []int{4, 6}}, {fork, []int{4, 1}, []int{2, 6}}, {fork, []int{2, 6}, nil},
		// Marks to which control does not come count as others do.
		{fork, []int{5}, []int{6}}, {code(last, nop, last), []int{1}, []int{2}}, {code(last, jump(0), nop), []int{1}, []int{0}},
		// What leads beyond leads nowhere.
		{code(jump(2), last), []int{0}, nil}, {code(last, nop), []int{1}, nil}, {code(zero(-1), last), []int{0}, []int{1}}, {code(jump(math.MinInt64), nop, jump(math.MaxInt64)), []int{0, 1}, []int{2}},
	} {
		got := flow.After(c.l, c.marks)
		if len(got) != len(c.l) || !slices.Equal(places(got), c.want) {
			t.Errorf("After(%v, %v) = %v; want %v", c.l, c.marks, got, c.want)
		}
	}
}

// marks are any, some of them no places.
func (c *chance) marks(n int) []int {
	var marks []int
	for range c.next(4) {
		marks = append(marks, c.next(n+3)-1)
		if c.next(5) == 0 {
			marks = append(marks, numbers()[c.next(len(numbers()))])
		}
	}
	return marks
}

// P14.2, much code; what is handed in is not changed.
func TestLiveAfterMany(t *testing.T) {
	many(func(l []api.Instr, c *chance) {
		marks := c.marks(len(l))
		before, kept := slices.Clone(l), slices.Clone(marks)
		want := afterOracle(l, func(i int) bool { return i == 0 })
		if got := flow.Live(l); !slices.Equal(got, want) {
			t.Errorf("Live(%v) = %v; want %v", l, got, want)
		}
		want = afterOracle(l, from(l, marks))
		if got := flow.After(l, marks); !slices.Equal(got, want) {
			t.Errorf("After(%v, %v) = %v; want %v", l, marks, got, want)
		}
		if !slices.Equal(l, before) || !slices.Equal(marks, kept) {
			t.Errorf("%v, %v: what is handed in is changed: %v, %v", before, kept, l, marks)
		}
	})
}

// within tells whether all that is true of a is true of b.
func within(a, b []bool) bool {
	for i := range a {
		if a[i] && !b[i] {
			return false
		}
	}
	return len(a) == len(b)
}

// P14.3: behind what is live all is live; what comes after some marks comes after more.
func TestFollows(t *testing.T) {
	many(func(l []api.Instr, c *chance) {
		live := flow.Live(l)
		if len(l) > 0 && !live[0] {
			t.Errorf("of %v the first one is not live", l)
		}
		for _, i := range places(live) {
			for _, to := range flow.Next(l, i) {
				if to >= 0 && to < len(l) && !live[to] {
					t.Errorf("of %v %d is live, and %d behind it is not", l, i, to)
				}
			}
		}
		if !within(flow.After(l, places(live)), live) {
			t.Errorf("of %v what comes after what is live is not live", l)
		}
		some, others := c.marks(len(l)), c.marks(len(l))
		more := slices.Concat(others, some)
		after := flow.After(l, more)
		if !within(flow.After(l, some), after) || !within(flow.After(l, others), after) {
			t.Errorf("of %v less comes after %v than after %v, or %v", l, more, some, others)
		}
		if !within(flow.After(l, places(after)), after) {
			t.Errorf("of %v, behind what comes after %v comes more", l, more)
		}
		slices.Reverse(more)
		if again := flow.After(l, slices.Concat(more, more)); !slices.Equal(again, after) {
			t.Errorf("of %v, %v: the order of the marks, or how often they are there, counts", l, more)
		}
	})
}

// The rules: no answer shares memory with another, or with what is handed in.
func TestShares(t *testing.T) {
	l := code(zero(2), out, jump(0))
	marks := []int{0}
	next, live, after := flow.Next(l, 0), flow.Live(l), flow.After(l, marks)
	clear(next[:cap(next)])
	clear(live[:cap(live)])
	clear(after[:cap(after)])
	if !slices.Equal(flow.Next(l, 0), []int{1, 2}) || !slices.Equal(places(flow.Live(l)), []int{0, 1, 2}) || !slices.Equal(places(flow.After(l, marks)), []int{0, 1, 2}) {
		t.Error("an answer shares memory with another")
	}
	live, after = flow.Live(l), flow.After(l, marks)
	clear(l)
	marks[0] = 2
	if !slices.Equal(places(live), []int{0, 1, 2}) || !slices.Equal(places(after), []int{0, 1, 2}) {
		t.Error("what is handed in is kept")
	}
}

// P7: each call ends at all arguments, and answers alike when it is asked again.
func TestEnds(t *testing.T) {
	c := chance(15)
	pick := func() int { return numbers()[c.next(len(numbers()))] }
	for i := range 3000 {
		l := c.some(i % 70)
		for j := range l {
			if c.next(3) == 0 {
				l[j] = api.Instr{Op: pick(), A: pick(), B: pick(), C: pick(), N: int64(pick())}
			}
		}
		for _, n := range numbers() {
			if !slices.Equal(flow.Next(l, n), flow.Next(l, n)) {
				t.Errorf("Next(%v, %d)", l, n)
			}
		}
		if flow.Check(l) != flow.Check(l) || !slices.Equal(flow.Live(l), flow.Live(l)) || !slices.Equal(flow.After(l, numbers()), flow.After(l, numbers())) {
			t.Errorf("of %v", l)
		}
	}
}

// P14.2 and P7: code that is longer than it may be is gone through, too, in time.
func TestLong(t *testing.T) {
	const n = 300000
	l := slices.Repeat(code(zero(0)), n)
	if got := flow.Live(l); len(places(got)) != n {
		t.Errorf("of a long way %d are live", len(places(got)))
	}
	for i := range l {
		l[i] = jump(int64((i + 7919) % n))
	}
	if got := flow.After(l, []int{n / 2}); len(places(got)) != n {
		t.Errorf("of a long circle %d come after one", len(places(got)))
	}
	if got := flow.After(l, slices.Repeat([]int{5}, n)); len(places(got)) != n {
		t.Errorf("of a long circle %d come after many marks", len(places(got)))
	}
	l[n/2] = last
	if got := flow.After(l, []int{n / 2}); len(places(got)) != 0 {
		t.Errorf("%d come after the end", len(places(got)))
	}
}
