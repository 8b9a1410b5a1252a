package live_test

import (
	"math"
	"slices"
	"strings"
	"testing"

	"sheerleg/api"
	"sheerleg/asm"
	"sheerleg/bind"
	"sheerleg/live"
)

// numbers are those that any call may be given.
func numbers() []int {
	return []int{math.MinInt, math.MinInt + 1, -1 << 32, -65536, -257, -256, -129, -128, -3, -2, -1, 0, 1, 2, 3, 7, 8, 9, 127, 128, 255, 256, 257, 65535, 65536, 1 << 31, 1 << 32, 1<<32 + 1, math.MaxInt - 1, math.MaxInt}
}

// bound is the program of a text, whose lines are told one by one, or several with a / between.
func bound(t *testing.T, lines ...string) api.Program {
	t.Helper()
	s := strings.ReplaceAll(strings.Join(lines, "\n"), " / ", "\n")
	o, at, e := asm.Parse(s)
	if e != api.OK {
		t.Fatalf("%v at line %d of\n%s", e, at, s)
	}
	p, r := bind.Bind([]api.Object{o}, "main")
	if r.Why != api.OK {
		t.Fatalf("%v of\n%s", r, s)
	}
	return p
}

// does is an instruction with a class, and the number to which it refers.
type does struct {
	op, c, to int
}

// calls, defers, takes, picks refer to a number, via to a class.
func calls(to int) does  { return does{api.OpCall, 0, to} }
func defers(to int) does { return does{api.OpDefer, 0, to} }
func takes(to int) does  { return does{api.OpFunc, 0, to} }
func picks(to int) does  { return does{api.OpPick, 0, to} }
func via(class int) does { return does{api.OpVia, class, -1} }

// fun is a function of a class, with such instructions.
func fun(class int, l ...does) api.Fun {
	f := api.Fun{F: api.Func{Class: class}}
	for _, x := range l {
		f.F.Code = append(f.F.Code, api.Instr{Op: x.op, C: x.c})
		f.Refs = append(f.Refs, x.to)
	}
	return f
}

// dat is data whose words refer to these.
func dat(refs ...int) api.Dat {
	return api.Dat{D: api.Data{Kind: 1, Words: make([]int64, len(refs))}, Refs: refs}
}

// program has these functions, and the first one as its entry.
func program(l ...api.Fun) api.Program {
	return api.Program{Funs: l}
}

// answers are those of all calls: the numbers of the live ones, of the taken ones, and of the called ones, and the call graph.
type answers struct {
	live, taken, called []int
	graph               [][]int
}

// marked are the places at which there is a mark.
func marked(marks []bool) []int {
	var l []int
	for at, is := range marks {
		if is {
			l = append(l, at)
		}
	}
	return l
}

func same(a, b [][]int) bool {
	return slices.EqualFunc(a, b, slices.Equal[[]int])
}

// holds holds all calls to what they answer of p.
func holds(t *testing.T, p api.Program, want answers) {
	t.Helper()
	for _, x := range []struct {
		what string
		got  []bool
		want []int
	}{{"Live", live.Live(p), want.live}, {"Taken", live.Taken(p), want.taken}, {"Called", live.Called(p), want.called}} {
		if len(x.got) != len(p.Funs) || !slices.Equal(marked(x.got), x.want) {
			t.Errorf("%s(%+v) = %v; want %v", x.what, p, x.got, x.want)
		}
	}
	if g := live.Graph(p); !same(g, want.graph) {
		t.Errorf("Graph(%+v) = %v; want %v", p, g, want.graph)
	}
}

// Example 1.
func TestExample(t *testing.T) {
	p := bound(t, "proc f f0 / return 0 / proc main f0 / return 0 / proc g f0 / call 0 @f / return 0")
	holds(t, p, answers{live: []int{1}, called: []int{1}, graph: make([][]int, 3)})
}

// play is a program in which main goes by calls, deferred calls, and via instructions: ended 0, main 1, picked 2, ahead 3, lone 4, kept 5, deep 6, late 7, named 8.
func play(t *testing.T) api.Program {
	t.Helper()
	return bound(t,
		"proc ended f0 / return 0",
		"proc main f0 / slots n n f1r f0 / call 0 @ahead / pick 2 1 @table / via 0 2 f1r / func 3 @named / return 0",
		"data table f1r / word nil / word @picked / word @kept / word @picked",
		"proc picked f1r / slots n / call 0 @deep / return 0",
		"proc ahead f0 / range 0 3 / defer 0 @late / nop / return 0",
		"proc lone f1r local / slots n f1r f0 / func 1 @lone / func 2 @ended / call 0 @ended / via 0 1 f1r / return 0",
		"proc kept f1r / slots n / return 0",
		"proc deep f0 / call 0 @deep / call 0 @ahead / return 0",
		"proc late f0 / call 0 @deep / return 0",
		"proc named f0 / slots n / call 0 @kept / return 0")
}

// P26.1: of each function, also of those that are not live, what it is.
func TestPlay(t *testing.T) {
	holds(t, play(t), answers{
		live:   []int{1, 2, 3, 5, 6, 7, 8},
		taken:  []int{2, 5, 8},
		called: []int{1, 2, 3, 5, 6, 7},
		graph:  [][]int{nil, {2, 3, 5}, {6}, {7}, nil, nil, {3, 6}, {6}, {5}},
	})
}

// P26.1, Live: the entry, and to whom it, and those, refer, by calls, deferred calls, values and words; also in a circle.
func TestLive(t *testing.T) {
	for _, x := range []func(to int) does{calls, defers, takes} {
		p := program(fun(0), fun(0, x(2)), fun(0, x(4)), fun(0, x(4)), fun(0, x(1)))
		for entry, want := range [][]int{{0}, {1, 2, 4}, {1, 2, 4}, {1, 2, 3, 4}, {1, 2, 4}} {
			p.Entry = entry
			if l := marked(live.Live(p)); !slices.Equal(l, want) {
				t.Errorf("Live(%+v) = %v; want %v", p, l, want)
			}
		}
	}
	p := program(fun(0, picks(1)), fun(0), fun(0, picks(0)), fun(0, calls(3)))
	p.Dats = []api.Dat{dat(1), dat(-1, 2, 2)}
	if l := marked(live.Live(p)); !slices.Equal(l, []int{0, 1, 2}) {
		t.Errorf("Live(%+v) = %v", p, l)
	}
	p.Funs[0].F.Code[0].Op = api.OpLoad
	if l := marked(live.Live(p)); !slices.Equal(l, []int{0}) {
		t.Errorf("Live(%+v) = %v", p, l)
	}
}

// P26.1: if the entry is no function's number, none is live.
func TestEntry(t *testing.T) {
	for _, n := range append(numbers(), 4) {
		p := program(fun(0, calls(1), takes(2), via(0)), fun(0, takes(0)), fun(0, via(0)))
		p.Entry = n
		switch n {
		case 0:
			holds(t, p, answers{[]int{0, 1, 2}, []int{0, 2}, []int{0, 1, 2}, [][]int{{0, 1, 2}, nil, {0, 2}}})
		case 1:
			holds(t, p, answers{[]int{0, 1, 2}, []int{0, 2}, []int{1}, [][]int{{0, 1, 2}, nil, {0, 2}}})
		case 2:
			holds(t, p, answers{[]int{2}, nil, []int{2}, make([][]int, 3)})
		default:
			holds(t, p, answers{graph: make([][]int, 3)})
		}
		holds(t, api.Program{Entry: n}, answers{})
		holds(t, api.Program{Entry: n, Dats: []api.Dat{dat(0, n)}}, answers{})
	}
	holds(t, api.Program{Funs: []api.Fun{}}, answers{})
	holds(t, program(fun(0)), answers{live: []int{0}, called: []int{0}, graph: make([][]int, 1)})
	holds(t, program(api.Fun{}, api.Fun{}), answers{live: []int{0}, called: []int{0}, graph: make([][]int, 2)})
}

// P26.1, Taken: by one that is live, by one that is not, by both; by itself; by words; who is called alone is not.
func TestTaken(t *testing.T) {
	p := program(fun(0, takes(1), calls(2)), fun(0, defers(3)), fun(0, picks(1)), fun(0), fun(0), fun(0, takes(5), takes(6), takes(1), picks(0)), fun(0))
	p.Dats = []api.Dat{dat(3, 6), dat(-1, 4, 4)}
	holds(t, p, answers{
		live:   []int{0, 1, 2, 3, 4},
		taken:  []int{1, 4},
		called: []int{0, 2},
		graph:  [][]int{{2}, {3}, nil, nil, nil, nil, nil},
	})
	p = program(fun(0, calls(1)), fun(0, takes(1)), fun(0, takes(0)))
	holds(t, p, answers{[]int{0, 1}, []int{1}, []int{0, 1}, [][]int{{1}, nil, nil}})
}

// P26.1, Graph: a live function goes by a class to all that are taken and have it, be they one, or two, or itself, and to no other.
func TestVia(t *testing.T) {
	for class := range 8 {
		other := (class + 3) % 8
		one := program(fun(0, via(class), takes(1), takes(2), calls(3)), fun(class), fun(other), fun(class))
		holds(t, one, answers{[]int{0, 1, 2, 3}, []int{1, 2}, []int{0, 1, 3}, [][]int{{1, 3}, nil, nil, nil}})
		two := program(fun(other, takes(3), calls(2), takes(1)), fun(class), fun(other, via(class), via(class)), fun(class), fun(class, takes(4)))
		holds(t, two, answers{[]int{0, 1, 2, 3}, []int{1, 3}, []int{0, 1, 2, 3}, [][]int{{2}, nil, {1, 3}, nil, nil}})
		none := program(fun(other, via(class), takes(1), calls(2)), fun(other), fun(class), fun(class))
		holds(t, none, answers{[]int{0, 1, 2}, []int{1}, []int{0, 2}, [][]int{{2}, nil, nil, nil}})
		itself := program(fun(class, takes(0), via(class)), fun(class, takes(1), via(class)))
		holds(t, itself, answers{[]int{0}, []int{0}, []int{0}, [][]int{{0}, nil}})
		both := program(fun(class, takes(2), via(other), calls(2), via(class), calls(1), takes(1), takes(0)), fun(class), fun(other), fun(other, via(class), via(other), calls(1)))
		holds(t, both, answers{[]int{0, 1, 2}, []int{0, 1, 2}, []int{0, 1, 2}, [][]int{{0, 1, 2}, nil, nil, nil}})
	}
}

// P26.1, Graph: functions of no class are gone to by none, and via instructions of no class go to none.
func TestNoClass(t *testing.T) {
	for _, n := range append(numbers(), 4, 5, 6, 10, 15, 16) {
		for _, class := range append(numbers(), n) {
			p := program(fun(n, via(class), takes(1)), fun(n, via(n)))
			want := answers{[]int{0, 1}, []int{1}, []int{0}, make([][]int, 2)}
			if n >= 0 && n < 8 {
				want.graph[1] = []int{1}
				if class == n {
					want.graph[0] = []int{1}
					want.called = []int{0, 1}
				}
			}
			holds(t, p, want)
		}
	}
}

// P26.1, Called: by calls, by deferred calls, and by via instructions of who is called; who is live may not be called.
func TestCalled(t *testing.T) {
	for _, x := range []func(to int) does{calls, defers} {
		p := program(fun(0, x(3)), fun(0), fun(0, x(1)), fun(0, x(2)), fun(0, x(0)))
		holds(t, p, answers{[]int{0, 1, 2, 3}, nil, []int{0, 1, 2, 3}, [][]int{{3}, nil, {1}, {2}, nil}})
	}
	// Who takes may be another one than who goes by the class.
	p := program(fun(0, calls(1), calls(2)), fun(0, takes(3)), fun(0, via(2)), fun(2, defers(4)), fun(0))
	holds(t, p, answers{[]int{0, 1, 2, 3, 4}, []int{3}, []int{0, 1, 2, 3, 4}, [][]int{{1, 2}, nil, {3}, {4}, nil}})
	// One that is not called goes by a class, and takes.
	p = program(fun(0, takes(1)), fun(0, via(2), takes(2), calls(3)), fun(2, calls(0)), fun(0))
	holds(t, p, answers{[]int{0, 1, 2, 3}, []int{1, 2}, []int{0}, [][]int{nil, {2, 3}, {0}, nil}})
	p.Funs[0] = fun(0, takes(1), via(2))
	holds(t, p, answers{[]int{0, 1, 2, 3}, []int{1, 2}, []int{0, 2}, [][]int{{2}, {2, 3}, {0}, nil}})
}

// P26.1: numbers that are none of the functions, or data, and what has no number, refer to nobody.
func TestNumbers(t *testing.T) {
	for _, n := range numbers() {
		if n >= 0 && n < 3 {
			continue
		}
		p := program(fun(0, calls(n), takes(n), defers(n), picks(n), picks(0), calls(2)), fun(0), fun(0, takes(1)))
		p.Dats = []api.Dat{dat(n)}
		holds(t, p, answers{[]int{0, 1, 2}, []int{1}, []int{0, 2}, [][]int{{2}, nil, nil}})
		p.Funs[0].Refs = p.Funs[0].Refs[:5]
		holds(t, p, answers{[]int{0}, nil, []int{0}, make([][]int, 3)})
		p.Funs[0].Refs = append(p.Funs[0].Refs, 2, 1, 1)
		holds(t, p, answers{[]int{0, 1, 2}, []int{1}, []int{0, 2}, [][]int{{2}, nil, nil}})
		p.Funs[0].F.Code = p.Funs[0].F.Code[:5]
		holds(t, p, answers{[]int{0}, nil, []int{0}, make([][]int, 3)})
	}
}
