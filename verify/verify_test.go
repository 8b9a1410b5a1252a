package verify_test

import (
	"fmt"
	"math"
	"slices"
	"testing"

	"sheerleg/api"
	"sheerleg/fun"
	"sheerleg/instr"
	"sheerleg/op"
	"sheerleg/verify"
)

// none: no symbol is referred to.
const none = -1

// chance gives numbers that look as if they hung on nothing, always the same ones.
type chance uint64

func (c *chance) next(n int) int {
	*c = *c*6364136223846793005 + 1442695040888963407
	return int(*c >> 33 % chance(n))
}

// numbers are those that any call may be given.
func numbers() []int {
	return []int{math.MinInt, math.MinInt + 1, -1 << 32, -65536, -256, -16, -2, -1, 0, 1, 2, 3, 7, 8, 9, 15, 16, 17, 31, 32, 33, 63, 64, 65, 255, 256, 65535, 65536, 1 << 31, 1 << 32, 1<<32 + 1, math.MaxInt - 2, math.MaxInt - 1, math.MaxInt}
}

// without are the numbers that are not from least to greatest; some have the lowest bits of those that are.
func without(least, greatest int) []int {
	l := append(numbers(), least-1, least-2, greatest+1, greatest+2, 256+least, 65536+greatest, 1<<32+greatest, -1<<32+greatest)
	return slices.DeleteFunc(l, func(n int) bool { return least <= n && n <= greatest })
}

// Where symbols stands what.
const (
	symFunc  = 0  // a function of each class, by classes
	symData  = 8  // data of each kind, by kinds
	symOther = 17 // what is neither, or of no class, or kind
)

// symbols are of all sorts and kinds.
func symbols() []api.Symbol {
	var l []api.Symbol
	for class := range 8 {
		l = append(l, api.Symbol{Name: fmt.Sprint("f", class), Sort: api.SymFunc, Kind: class, Def: class})
	}
	for kind := range 9 {
		l = append(l, api.Symbol{Name: fmt.Sprint("d", kind), Sort: api.SymData, Kind: kind, Def: -1})
	}
	for _, sort := range without(1, 2) {
		for kind := range 3 {
			l = append(l, api.Symbol{Sort: sort, Kind: kind})
		}
	}
	for _, class := range without(0, 7) {
		l = append(l, api.Symbol{Sort: api.SymFunc, Kind: class})
	}
	for _, kind := range without(0, 8) {
		l = append(l, api.Symbol{Sort: api.SymData, Kind: kind})
	}
	return l
}

// Where slots stands what.
const (
	slotFunc = 3  // functions of each class, by classes
	slotLast = 15 // the last one, of numbers
)

// slots are numbers, but for functions of each class, from 3 on, and those at 13.
func slots() []int {
	return []int{0, 0, 0, 1, 2, 3, 4, 5, 6, 7, 8, 0, 0, 1, 0, 0}
}

func isNumber(at int) bool {
	return 0 <= at && at < 3 || at == 11 || at == 12 || at == 14 || at == 15
}

// last returns from functions that do not answer.
var last = api.Instr{Op: api.OpReturn}

// ref is a reference.
func ref(at, sym int) api.Reloc {
	return api.Reloc{At: at, Sym: sym}
}

// of is a function in which x stands first, and refers to these, one behind the other.
func of(x api.Instr, syms ...int) api.Func {
	f := api.Func{Kinds: slots(), Code: []api.Instr{x, last}}
	for _, sym := range syms {
		if sym != none {
			f.Relocs = append(f.Relocs, ref(0, sym))
		}
	}
	return f
}

// wants holds the first instruction's error against one, and Check, of which it is the first one that may not be.
func wants(t *testing.T, f api.Func, l []api.Symbol, want api.Errno) {
	t.Helper()
	if e := verify.Instr(f, l, 0); e != want {
		t.Errorf("Instr(%v, %v) = %v; want %v", f, f.Code[0], e, want)
	}
	place := 0
	if want == api.OK {
		place = -1
	}
	if e := fun.Check(f); e != api.OK {
		want, place = e, -1
	}
	if e, at := verify.Check(f, l); e != want || at != place {
		t.Errorf("Check(%v) = %v, %d; want %v, %d", f, e, at, want, place)
	}
}

// item is an instruction, and to which of symbols it refers.
type item struct {
	x   api.Instr
	sym int
}

// right are instructions that may be, one of each operation, by the operations.
func right() []item {
	return []item{
		api.OpNop:     {api.Instr{Op: api.OpNop}, none},
		api.OpSet:     {api.Instr{Op: api.OpSet, A: 2, N: -7}, none},
		api.OpMove:    {api.Instr{Op: api.OpMove, A: 0, B: 15}, none},
		api.OpAdd:     {api.Instr{Op: api.OpAdd, A: 15, B: 1, C: 11}, none},
		api.OpSub:     {api.Instr{Op: api.OpSub, A: 1, B: 0, C: 2}, none},
		api.OpMul:     {api.Instr{Op: api.OpMul, A: 12, B: 15, C: 0}, none},
		api.OpDiv:     {api.Instr{Op: api.OpDiv, A: 0, B: 14, C: 12}, none},
		api.OpMod:     {api.Instr{Op: api.OpMod, A: 14, B: 1, C: 1}, none},
		api.OpLess:    {api.Instr{Op: api.OpLess, A: 2, B: 2, C: 15}, none},
		api.OpSame:    {api.Instr{Op: api.OpSame, A: 1, B: 12, C: 0}, none},
		api.OpJump:    {api.Instr{Op: api.OpJump, N: 1}, none},
		api.OpZero:    {api.Instr{Op: api.OpZero, A: 11, N: 1}, none},
		api.OpIn:      {api.Instr{Op: api.OpIn, A: 12}, none},
		api.OpOut:     {api.Instr{Op: api.OpOut, A: 15}, none},
		api.OpLoad:    {api.Instr{Op: api.OpLoad, A: 1, B: 2}, symData},
		api.OpStore:   {api.Instr{Op: api.OpStore, A: 0, B: 14}, symData},
		api.OpFunc:    {api.Instr{Op: api.OpFunc, A: slotFunc + 5}, symFunc + 5},
		api.OpPick:    {api.Instr{Op: api.OpPick, A: slotFunc + 6, B: 2}, symData + 7},
		api.OpCall:    {api.Instr{Op: api.OpCall, A: 1}, symFunc + 4},
		api.OpVia:     {api.Instr{Op: api.OpVia, A: 14, B: slotFunc + 3, C: 3}, none},
		api.OpDefer:   {api.Instr{Op: api.OpDefer, A: 12}, symFunc + 2},
		api.OpPanic:   {api.Instr{Op: api.OpPanic, A: 11}, none},
		api.OpRecover: {api.Instr{Op: api.OpRecover, A: 2, B: 15}, none},
		api.OpReturn:  {api.Instr{Op: api.OpReturn}, none},
	}
}

// all tells each of right.
func all(tell func(x api.Instr, sym int)) {
	for _, r := range right()[1:] {
		tell(r.x, r.sym)
	}
}

// operands are where an instruction of an operation has numbers' slots: 0 for A, 1 for B, 2 for C.
type operands struct {
	op int
	at []int
}

// numbered are the operations of which some operands are numbers' slots, whatever else there is.
func numbered() []operands {
	return []operands{
		{api.OpSet, []int{0}}, {api.OpMove, []int{0, 1}},
		{api.OpAdd, []int{0, 1, 2}}, {api.OpSub, []int{0, 1, 2}}, {api.OpMul, []int{0, 1, 2}}, {api.OpDiv, []int{0, 1, 2}}, {api.OpMod, []int{0, 1, 2}}, {api.OpLess, []int{0, 1, 2}}, {api.OpSame, []int{0, 1, 2}},
		{api.OpZero, []int{0}}, {api.OpIn, []int{0}}, {api.OpOut, []int{0}},
		{api.OpLoad, []int{0, 1}}, {api.OpStore, []int{0, 1}}, {api.OpPick, []int{1}},
		{api.OpDefer, []int{0}}, {api.OpPanic, []int{0}}, {api.OpRecover, []int{0, 1}},
	}
}

// set is x with n at the place i of A, B, C.
func set(x api.Instr, i, n int) api.Instr {
	*[]*int{&x.A, &x.B, &x.C}[i] = n
	return x
}

// P17.1, each operation: with the reference that it needs, without, with one that it does not need, with one to no symbol.
func TestReferences(t *testing.T) {
	l := symbols()
	all(func(x api.Instr, sym int) {
		wants(t, of(x, sym), l, api.OK)
		if sym == none {
			for _, wrong := range append(numbers(), 0, 3, 8, 9, 16) {
				if wrong != none {
					wants(t, of(x, wrong), l, api.ErrReloc)
				}
				wants(t, api.Func{Kinds: slots(), Code: []api.Instr{x, last}, Relocs: []api.Reloc{ref(0, wrong)}}, nil, api.ErrReloc)
			}
			return
		}
		wants(t, of(x), l, api.ErrReloc)
		wants(t, of(x, sym), nil, api.ErrReloc)
		wants(t, of(x, sym), l[:sym], api.ErrReloc)
		wants(t, of(x, sym), l[:sym+1], api.OK)
		for _, wrong := range append(without(0, len(l)-1), len(l), len(l)+1) {
			f := of(x)
			f.Relocs = []api.Reloc{ref(0, wrong)}
			wants(t, f, l, api.ErrReloc)
		}
		// That of another place, ahead or behind, is none of this one.
		f := of(x)
		f.Relocs = []api.Reloc{ref(-1, sym), ref(1, sym), ref(2, sym), ref(1<<32, sym), ref(256, sym)}
		wants(t, f, l, api.ErrReloc)
	})
}

// P17.1: of two references at one place the first one counts, wherever in the list it stands, and however wide it is.
func TestTwoReferences(t *testing.T) {
	l := symbols()
	load := right()[api.OpLoad].x
	wants(t, of(load, symData, symFunc), l, api.OK)
	wants(t, of(load, symData, 9999), l, api.OK)
	wants(t, of(load, symFunc, symData), l, api.ErrKind)
	wants(t, of(load, symData+1, symData), l, api.ErrKind)
	wants(t, of(load, 9999, symData), l, api.ErrReloc)
	wants(t, of(load, -2, symData, symData), l, api.ErrReloc)
	wants(t, of(api.Instr{Op: api.OpNop}, 0, 0), l, api.ErrReloc)
	call := api.Instr{Op: api.OpCall, A: 12} // behind 12 there are functions
	wants(t, of(call, symFunc+2, symFunc+4), l, api.OK)
	wants(t, of(call, symFunc+4, symFunc+2), l, api.ErrKind)
	for _, wide := range []bool{false, true} {
		f := of(load)
		f.Relocs = []api.Reloc{ref(1, symFunc), {At: 0, Sym: symData, Wide: wide}, {At: 0, Sym: symFunc, Wide: !wide}, ref(-1, 0)}
		if e := verify.Instr(f, l, 0); e != api.OK {
			t.Errorf("a reference behind that of another place: %v", e)
		}
		if e := verify.Instr(f, l, 1); e != api.ErrReloc {
			t.Errorf("return with a reference: %v", e)
		}
	}
}

// P17.1: a symbol of each sort and kind, where a function, data that are numbers, data that are functions are needed.
func TestSymbols(t *testing.T) {
	l := symbols()
	for sym, s := range l {
		function := s.Sort == 1
		numbers := s.Sort == 2 && s.Kind == 0
		functions := s.Sort == 2 && s.Kind >= 1 && s.Kind <= 8
		for _, c := range []struct {
			x  api.Instr
			is bool
		}{
			{api.Instr{Op: api.OpLoad}, numbers}, {api.Instr{Op: api.OpStore}, numbers},
			{api.Instr{Op: api.OpFunc, A: 99}, function}, {api.Instr{Op: api.OpCall}, function}, {api.Instr{Op: api.OpDefer}, function}, {api.Instr{Op: api.OpPick, A: 99}, functions},
		} {
			if e := verify.Instr(of(c.x, sym), l, 0); (e == api.ErrKind) == c.is {
				t.Errorf("%v, referring to %v: %v", c.x, s, e)
			}
		}
	}
	// What else a symbol says does not count.
	for _, s := range []api.Symbol{{Sort: api.SymData}, {Name: "?", Local: true, Sort: api.SymData, Def: math.MaxInt}, {Sort: api.SymData, Def: -1}, {Name: "main", Sort: api.SymData, Def: math.MinInt}} {
		wants(t, of(api.Instr{Op: api.OpLoad}, 0), []api.Symbol{s}, api.OK)
	}
}

// P17.1, ErrClass: via of what is no class, defer of what may not be deferred.
func TestClasses(t *testing.T) {
	l := symbols()
	for class := range 8 {
		want := api.ErrClass
		if class == 0 || class == 2 {
			want = api.OK
		}
		wants(t, of(api.Instr{Op: api.OpDefer}, symFunc+class), l, want)
		wants(t, of(api.Instr{Op: api.OpVia, B: slotFunc + class, C: class}), l, api.OK)
		// Of call, func and via that does not count.
		wants(t, of(api.Instr{Op: api.OpCall}, symFunc+class), l, api.OK)
		wants(t, of(api.Instr{Op: api.OpFunc, A: slotFunc + class}, symFunc+class), l, api.OK)
	}
	for _, class := range without(0, 7) {
		f := of(api.Instr{Op: api.OpVia, B: 0, C: class})
		wants(t, f, l, api.ErrClass)
		f.Kinds = []int{class + 1, 0}
		wants(t, f, l, api.ErrClass)
		f.Code[0].B, f.Code[0].A = 1, -1
		wants(t, f, l, api.ErrClass)
	}
	for sym, s := range l {
		if s.Sort == api.SymFunc && s.Kind != 0 && s.Kind != 2 {
			wants(t, of(api.Instr{Op: api.OpDefer}, sym), l, api.ErrClass)
		}
	}
}

// P17.1, each operand that must be a number's slot: slots of both kinds, and such as are not there.
func TestNumbers(t *testing.T) {
	l := symbols()
	for _, o := range numbered() {
		r := right()[o.op]
		for _, i := range o.at {
			for at := range slots() {
				want := api.ErrKind
				if isNumber(at) {
					want = api.OK
				}
				wants(t, of(set(r.x, i, at), r.sym), l, want)
			}
			for _, at := range without(0, slotLast) {
				wants(t, of(set(r.x, i, at), r.sym), l, api.ErrRange)
			}
		}
	}
}

// P17.1: how many slots there are, down to none.
func TestFewSlots(t *testing.T) {
	l := symbols()
	for _, o := range numbered() {
		r := right()[o.op]
		if o.op == api.OpPick {
			continue // its first operand is none of numbers
		}
		for n := range 6 {
			f := of(r.x, r.sym)
			f.Kinds = make([]int, n)
			for mask := range 1 << (2 * len(o.at)) {
				want := api.OK
				for k, i := range o.at {
					at := n + mask>>(2*k)&3 - 2 // of the last two, and the two behind
					f.Code[0] = set(f.Code[0], i, at)
					if (at < 0 || at >= n) && want == api.OK {
						want = api.ErrRange
					}
				}
				wants(t, f, l, want)
			}
		}
	}
}

// P17.1, kinds of slots: numbers are of the kind 0 alone.
func TestKinds(t *testing.T) {
	l := symbols()
	for _, kind := range append(without(0, 0), 4, 5, 6) {
		for _, o := range numbered() {
			r := right()[o.op]
			for _, i := range o.at {
				f := of(set(r.x, i, 1), r.sym)
				f.Kinds[1] = kind
				for _, j := range o.at {
					if i != j {
						f.Code[0] = set(f.Code[0], j, slotLast)
					}
				}
				wants(t, f, l, api.ErrKind)
			}
		}
	}
}

// P17.1, functions' slots of func, pick and via: of the class, of another one, of numbers, and such as are not there.
func TestFunctions(t *testing.T) {
	l := symbols()
	for class := range 8 {
		for _, at := range append(without(0, slotLast), 0, 1, 2, 3, 4, 5, 6, 7, 8, 9, 10, 11, 12, 13, 14, 15) {
			want := api.ErrKind
			if at < 0 || at > slotLast {
				want = api.ErrRange
			}
			if at == slotFunc+class || at == 13 && class == 0 {
				want = api.OK
			}
			wants(t, of(api.Instr{Op: api.OpFunc, A: at}, symFunc+class), l, want)
			wants(t, of(api.Instr{Op: api.OpPick, A: at, B: 15}, symData+1+class), l, want)
			wants(t, of(api.Instr{Op: api.OpVia, B: at, C: class}), l, want)
		}
	}
}

// P17.1, func of a class that there is not, also from far outside: the slot's kind is 1 and the class, gone round.
func TestFarClasses(t *testing.T) {
	for _, class := range append(without(0, 7), 0, 1, 6, 7) {
		l := []api.Symbol{{Sort: api.SymFunc, Kind: class}}
		for _, kind := range append(numbers(), class, class+1, class-1, class+2, -class, 256+class+1, 1<<32+class+1) {
			f := of(api.Instr{Op: api.OpFunc, A: 1}, 0)
			f.Kinds = []int{0, kind}
			want := api.ErrKind
			if uint64(kind) == uint64(class)+1 {
				want = api.OK
			}
			wants(t, f, l, want)
		}
		// A call of it has no parameter, and no answer.
		if class < 0 || class > 7 {
			wants(t, of(api.Instr{Op: api.OpCall}, 0), l, api.OK)
			wants(t, of(api.Instr{Op: api.OpCall, A: 1}, 0), l, api.ErrArg)
			wants(t, of(api.Instr{Op: api.OpCall, A: -1}, 0), l, api.ErrArg)
		}
	}
}

// P17.1, pick of data of a kind that is not that of functions: whatever the slot is.
func TestFarKinds(t *testing.T) {
	for _, kind := range append(without(1, 8), 0) {
		l := []api.Symbol{{Sort: api.SymData, Kind: kind}}
		for _, own := range []int{kind, kind + 1, kind - 1, 0, 1, 8} {
			for a := range 3 {
				f := of(api.Instr{Op: api.OpPick, A: a}, 0)
				f.Kinds = []int{0, own}
				wants(t, f, l, api.ErrKind)
			}
		}
	}
}

// params is how many parameters a class has, and answers whether it does; both written out.
func params(class int) int   { return []int{0, 0, 1, 1, 2, 2, 3, 3}[class] }
func answers(class int) bool { return class%2 == 1 }

// calledOracle is the error of the first slot of a call that may not be, going slot by slot.
func calledOracle(kinds []int, class, a int) api.Errno {
	n := params(class)
	if n == 0 && !answers(class) {
		if a != 0 {
			return api.ErrArg
		}
		return api.OK
	}
	for i := range max(n, 1) {
		if a < 0 || a+i < 0 || a+i >= len(kinds) {
			return api.ErrRange
		}
		if kinds[a+i] != 0 {
			return api.ErrKind
		}
	}
	return api.OK
}

// P17.1, call and via of each class: slots that just fit, that do not, that are of functions, wherever.
func TestCalls(t *testing.T) {
	l := symbols()
	for class := range 8 {
		for n := range 6 {
			for mask := range 1 << n {
				kinds := []int{1 + class} // for via
				for i := range n {
					kinds = append(kinds, []int{0, 3}[mask>>i&1])
				}
				for a := -3; a < n+4; a++ {
					want := calledOracle(kinds, class, a)
					f := of(api.Instr{Op: api.OpCall, A: a}, symFunc+class)
					f.Kinds = kinds
					wants(t, f, l, want)
					f = of(api.Instr{Op: api.OpVia, A: a, C: class})
					f.Kinds = kinds
					wants(t, f, l, want)
				}
			}
		}
		for _, a := range without(0, slotLast) {
			want := api.ErrRange
			if class == 0 {
				want = api.ErrArg
			}
			wants(t, of(api.Instr{Op: api.OpCall, A: a}, symFunc+class), l, want)
			wants(t, of(api.Instr{Op: api.OpVia, A: a, B: slotFunc + class, C: class}), l, want)
		}
	}
}

// P17.1, calls, written out.
func TestCallsWritten(t *testing.T) {
	l := symbols()
	for _, c := range []struct {
		class, a int
		kinds    []int
		want     api.Errno
	}{
		// No parameter, and no answer: A is 0, whatever slots there are.
		{0, 0, nil, api.OK}, {0, 0, []int{1}, api.OK}, {0, 0, []int{0}, api.OK}, {0, 1, []int{0, 0}, api.ErrArg}, {0, 1, nil, api.ErrArg}, {0, -1, nil, api.ErrArg}, {0, 255, nil, api.ErrArg},
		// An answer alone.
		{1, 0, nil, api.ErrRange}, {1, 0, []int{0}, api.OK}, {1, 0, []int{1}, api.ErrKind}, {1, 1, []int{1, 0}, api.OK}, {1, 1, []int{0}, api.ErrRange},
		// One parameter, with an answer and without.
		{2, 0, []int{0}, api.OK}, {2, 1, []int{0}, api.ErrRange}, {2, 0, []int{2, 0}, api.ErrKind}, {2, 0, []int{0, 2}, api.OK}, {3, 0, []int{0}, api.OK}, {3, 0, []int{0, 2}, api.OK}, {3, 0, []int{2}, api.ErrKind}, {3, 0, nil, api.ErrRange},
		// Two.
		{4, 0, []int{0, 0}, api.OK}, {4, 0, []int{0}, api.ErrRange}, {4, 1, []int{0, 0}, api.ErrRange}, {4, 0, []int{0, 1}, api.ErrKind}, {4, 0, []int{1, 0}, api.ErrKind}, {4, 0, []int{1}, api.ErrKind}, {4, 1, []int{8, 0, 0, 8}, api.OK}, {5, 1, []int{8, 0, 0, 8}, api.OK}, {5, 2, []int{0, 0, 0}, api.ErrRange},
		// Three: the first slot that may not be is told.
		{6, 0, []int{0, 0, 0}, api.OK}, {6, 0, []int{0, 0}, api.ErrRange}, {6, 0, []int{0, 1}, api.ErrKind}, {6, 0, []int{0}, api.ErrRange}, {6, 1, []int{0, 0, 1}, api.ErrKind}, {6, 0, []int{0, 0, 4}, api.ErrKind}, {6, 1, []int{1, 0, 0, 0, 1}, api.OK}, {7, 0, []int{0, 0, 0}, api.OK}, {7, 0, []int{0, 0, 0, 1}, api.OK}, {7, 1, []int{0, 0, 0}, api.ErrRange}, {7, 0, []int{0, 0, 1}, api.ErrKind},
		{6, -1, []int{0, 0, 0}, api.ErrRange}, {7, -1, []int{0, 0, 0}, api.ErrRange}, {6, -2, []int{0, 0, 0}, api.ErrRange}, {7, math.MaxInt, []int{0, 0, 0}, api.ErrRange}, {7, math.MinInt, []int{0, 0, 0}, api.ErrRange},
		// Slots of kinds that there are not are none of numbers.
		{2, 0, []int{-1}, api.ErrKind}, {2, 0, []int{9}, api.ErrKind}, {4, 0, []int{0, 1 << 32}, api.ErrKind},
	} {
		f := of(api.Instr{Op: api.OpCall, A: c.a}, symFunc+c.class)
		f.Kinds = c.kinds
		wants(t, f, l, c.want)
		// The class that its symbol says, not what its own function is.
		for own := range 8 {
			f.Class = own
			if e := verify.Instr(f, l, 0); e != c.want {
				t.Errorf("call of class %d with A %d, slots %v, in a function of class %d: %v; want %v", c.class, c.a, c.kinds, own, e, c.want)
			}
		}
	}
}

// P17.1, defer with a parameter, and without.
func TestDefer(t *testing.T) {
	l := symbols()
	for _, kinds := range [][]int{nil, {0}, {1}, {1, 0}, {0, 0, 5}, slots()} {
		for _, a := range append(numbers(), 4, 5, 6, 10, 11, 12, 13, 14) {
			with := func(class int) api.Func {
				f := of(api.Instr{Op: api.OpDefer, A: a}, symFunc+class)
				f.Kinds = kinds
				return f
			}
			want := api.OK
			if a != 0 {
				want = api.ErrArg
			}
			wants(t, with(0), l, want)
			want = api.ErrRange
			if a >= 0 && a < len(kinds) {
				want = []api.Errno{api.OK, api.ErrKind}[min(kinds[a], 1)]
			}
			wants(t, with(2), l, want)
		}
	}
}

// P17.1, return of a function that answers, of one that does not, and of one of no class, which does not.
func TestReturn(t *testing.T) {
	kinds := []int{0, 0, 0, 4, 0}
	for _, class := range append(without(0, 7), 0, 1, 2, 3, 4, 5, 6, 7) {
		for _, a := range append(numbers(), 4, 5, 6) {
			f := api.Func{Class: class, Kinds: kinds, Code: []api.Instr{{Op: api.OpReturn, A: a}}}
			want := api.OK
			if a != 0 {
				want = api.ErrArg
			}
			if class >= 0 && class <= 7 && answers(class) {
				want = api.ErrRange
				if a >= 0 && a < len(kinds) {
					want = []api.Errno{api.OK, api.ErrKind}[min(kinds[a], 1)]
				}
			}
			wants(t, f, nil, want)
		}
	}
	wants(t, api.Func{Class: 1, Code: []api.Instr{last}}, nil, api.ErrRange)
	wants(t, api.Func{Class: 1, Kinds: []int{1}, Code: []api.Instr{last}}, nil, api.ErrKind)
	wants(t, api.Func{Class: 1, Kinds: []int{0}, Code: []api.Instr{last}}, nil, api.OK)
	wants(t, api.Func{Code: []api.Instr{last}}, nil, api.OK)
}

// P17.1, two things wrong at once: the one that is named first is told.
func TestOrder(t *testing.T) {
	l := symbols()
	const (
		fn     = slotFunc + 1 // functions
		beyond = 16
	)
	for _, c := range []struct {
		x    api.Instr
		sym  int
		want api.Errno
	}{
		// A reference ahead of all.
		{api.Instr{Op: api.OpLoad, A: beyond, B: fn}, none, api.ErrReloc}, {api.Instr{Op: api.OpLoad, A: beyond, B: fn}, 9999, api.ErrReloc}, {api.Instr{Op: api.OpSet, A: beyond}, symFunc, api.ErrReloc}, {api.Instr{Op: api.OpVia, A: beyond, B: beyond, C: 8}, symFunc, api.ErrReloc}, {api.Instr{Op: api.OpReturn, A: 1}, symFunc, api.ErrReloc}, {api.Instr{Op: api.OpDefer, A: beyond}, none, api.ErrReloc}, {api.Instr{Op: api.OpCall, A: beyond}, none, api.ErrReloc},
		// The symbol ahead of the class and the operands.
		{api.Instr{Op: api.OpLoad, A: beyond}, symData + 1, api.ErrKind}, {api.Instr{Op: api.OpStore, A: beyond}, symFunc, api.ErrKind}, {api.Instr{Op: api.OpPick, A: beyond}, symData, api.ErrKind}, {api.Instr{Op: api.OpFunc, A: beyond}, symData, api.ErrKind}, {api.Instr{Op: api.OpCall, A: beyond}, symData, api.ErrKind}, {api.Instr{Op: api.OpCall, A: 1}, symData, api.ErrKind},
		{api.Instr{Op: api.OpDefer, A: beyond}, symData + 3, api.ErrKind}, {api.Instr{Op: api.OpDefer, A: 1}, symData + 5, api.ErrKind},
		// The class ahead of the operands.
		{api.Instr{Op: api.OpDefer, A: beyond}, symFunc + 3, api.ErrClass}, {api.Instr{Op: api.OpDefer, A: fn}, symFunc + 4, api.ErrClass}, {api.Instr{Op: api.OpDefer, A: 1}, symFunc + 1, api.ErrClass}, {api.Instr{Op: api.OpVia, A: beyond, B: fn, C: 8}, none, api.ErrClass}, {api.Instr{Op: api.OpVia, A: 1, B: beyond, C: 255}, none, api.ErrClass}, {api.Instr{Op: api.OpVia, A: fn, B: 0, C: -1}, none, api.ErrClass},
		// A ahead of B, B ahead of C.
		{api.Instr{Op: api.OpMove, A: beyond, B: fn}, none, api.ErrRange}, {api.Instr{Op: api.OpMove, A: fn, B: beyond}, none, api.ErrKind},
		{api.Instr{Op: api.OpAdd, A: beyond, B: fn, C: fn}, none, api.ErrRange}, {api.Instr{Op: api.OpAdd, A: fn, B: beyond, C: beyond}, none, api.ErrKind}, {api.Instr{Op: api.OpAdd, B: beyond, C: fn}, none, api.ErrRange}, {api.Instr{Op: api.OpAdd, B: fn, C: beyond}, none, api.ErrKind}, {api.Instr{Op: api.OpSame, A: fn, C: beyond}, none, api.ErrKind}, {api.Instr{Op: api.OpDiv, A: -1, C: fn}, none, api.ErrRange},
		{api.Instr{Op: api.OpLoad, A: beyond, B: fn}, symData, api.ErrRange}, {api.Instr{Op: api.OpLoad, A: fn, B: beyond}, symData, api.ErrKind}, {api.Instr{Op: api.OpStore, A: beyond, B: fn}, symData, api.ErrRange}, {api.Instr{Op: api.OpStore, A: fn, B: -1}, symData, api.ErrKind}, {api.Instr{Op: api.OpRecover, A: beyond, B: fn}, none, api.ErrRange}, {api.Instr{Op: api.OpRecover, A: fn, B: beyond}, none, api.ErrKind},
		{api.Instr{Op: api.OpPick, A: beyond, B: fn}, symData + 2, api.ErrRange}, {api.Instr{Op: api.OpPick, A: 0, B: beyond}, symData + 2, api.ErrKind}, {api.Instr{Op: api.OpPick, A: fn + 1, B: beyond}, symData + 2, api.ErrKind}, {api.Instr{Op: api.OpPick, A: fn, B: beyond}, symData + 2, api.ErrRange}, {api.Instr{Op: api.OpPick, A: fn, B: fn}, symData + 2, api.ErrKind},
		// The slots of a call ahead of the function in B.
		{api.Instr{Op: api.OpVia, A: 1, B: beyond, C: 0}, none, api.ErrArg}, {api.Instr{Op: api.OpVia, A: 1, B: 1, C: 0}, none, api.ErrArg}, {api.Instr{Op: api.OpVia, A: 0, B: beyond, C: 0}, none, api.ErrRange}, {api.Instr{Op: api.OpVia, A: 0, B: 0, C: 0}, none, api.ErrKind}, {api.Instr{Op: api.OpVia, A: fn, B: beyond, C: 2}, none, api.ErrKind}, {api.Instr{Op: api.OpVia, A: beyond, B: 0, C: 2}, none, api.ErrRange}, {api.Instr{Op: api.OpVia, A: 15, B: 0, C: 4}, none, api.ErrRange}, {api.Instr{Op: api.OpVia, A: 12, B: beyond, C: 4}, none, api.ErrKind}, {api.Instr{Op: api.OpVia, A: 2, B: beyond, C: 7}, none, api.ErrKind}, {api.Instr{Op: api.OpVia, A: 0, B: beyond, C: 7}, none, api.ErrRange}, {api.Instr{Op: api.OpVia, A: 0, B: slotFunc + 6, C: 7}, none, api.ErrKind},
		// A number's slot: whether it is there ahead of its kind, slot by slot.
		{api.Instr{Op: api.OpCall, A: 14}, symFunc + 6, api.ErrRange}, {api.Instr{Op: api.OpCall, A: 12}, symFunc + 6, api.ErrKind}, {api.Instr{Op: api.OpCall, A: 13}, symFunc + 7, api.ErrKind}, {api.Instr{Op: api.OpCall, A: 15}, symFunc + 5, api.ErrRange}, {api.Instr{Op: api.OpCall, A: 15}, symFunc + 3, api.OK},
	} {
		wants(t, of(c.x, c.sym), l, c.want)
	}
}

// P17.1: what A, B, C and N are where their letter says nothing of slots, Instr does not ask; fun.Check does.
func TestInstrForm(t *testing.T) {
	l := symbols()
	for _, x := range []api.Instr{
		{Op: api.OpNop, A: 5, B: -1, C: 99, N: 7}, {Op: api.OpJump, N: -1}, {Op: api.OpJump, N: math.MaxInt64}, {Op: api.OpJump, A: 99, N: 0}, {Op: api.OpZero, N: 2}, {Op: api.OpZero, N: math.MinInt64}, {Op: api.OpSet, N: 1 << 40}, {Op: api.OpSet, B: 99, C: -1, N: math.MinInt64}, {Op: api.OpReturn, B: 3}, {Op: api.OpPanic, B: 99},
		// Operations of images alone, and those that there are not, have no operands that mean anything.
		{Op: api.OpCheck, A: 99, B: 99, C: 99, N: 99}, {Op: api.OpEnter, A: -1}, {Op: api.OpBottom}, {Op: api.OpDriver}, {}, {Op: -1, A: -1}, {Op: 29}, {Op: 256 + api.OpMove, A: 99}, {Op: 1<<32 + api.OpLoad}, {Op: math.MinInt}, {Op: math.MaxInt, C: 99},
	} {
		if fun.Check(of(x)) == api.OK && x.Op != api.OpSet {
			t.Errorf("%v has a form", x)
		}
		wants(t, of(x), l, api.OK)
		wants(t, of(x, 0), l, api.ErrReloc)
		wants(t, of(x, 9999), l, api.ErrReloc)
	}
	// What else is wrong of the function does not count.
	f := api.Func{Class: -7, Kinds: slices.Repeat([]int{77, 0}, 40), Pad: -1, From: 9, To: -9, Lines: []api.Line{{At: -1, Line: -1}}, Code: slices.Repeat([]api.Instr{{Op: api.OpMove, A: 79, B: 1}}, 90)}
	if e := verify.Instr(f, nil, 89); e != api.OK {
		t.Errorf("a function without a form: %v", e)
	}
	f.Code[89].B = 80
	if e := verify.Instr(f, nil, 89); e != api.ErrRange {
		t.Errorf("a function without a form: %v", e)
	}
	f.Code[89].A = 78
	if e := verify.Instr(f, nil, 89); e != api.ErrKind {
		t.Errorf("a function without a form: %v", e)
	}
}

// P17.1: Instr of an instruction that there is not.
func TestInstrNone(t *testing.T) {
	l := symbols()
	for _, n := range []int{0, 1, 2, 64, 70} {
		f := api.Func{Kinds: slots(), Code: slices.Repeat([]api.Instr{last}, n)}
		for _, i := range append(without(0, n-1), n, n+1, -n, -n-1) {
			if i >= 0 && i < n {
				continue
			}
			for _, relocs := range [][]api.Reloc{nil, {ref(i, 0)}, {ref(i, -1)}, {ref(i, 9999)}} {
				f.Relocs = relocs
				if e := verify.Instr(f, l, i); e != api.ErrArg {
					t.Errorf("of %d, instruction %d: %v", n, i, e)
				}
				if e := verify.Instr(f, nil, i); e != api.ErrArg {
					t.Errorf("of %d, without symbols, instruction %d: %v", n, i, e)
				}
			}
		}
	}
}

// P17.1, functions without a form: fun.Check's error, and -1, ahead of what is wrong of instructions.
func TestCheckForm(t *testing.T) {
	l := symbols()
	good := func() api.Func {
		return api.Func{Class: 1, Kinds: []int{0, 4}, Code: []api.Instr{{Op: api.OpOut}, {Op: api.OpReturn}}, Lines: []api.Line{{At: 0, Line: 3}}, From: 1, To: 2}
	}
	if e, at := verify.Check(good(), l); e != api.OK || at != -1 {
		t.Errorf("%v, %d", e, at)
	}
	for i, c := range []struct {
		change func(f *api.Func)
		want   api.Errno
	}{
		{func(f *api.Func) { f.Class = 8 }, api.ErrClass}, {func(f *api.Func) { f.Class = -1 }, api.ErrClass}, {func(f *api.Func) { f.Kinds = make([]int, 17) }, api.ErrLong}, {func(f *api.Func) { f.Class = 3; f.Kinds = nil }, api.ErrArg}, {func(f *api.Func) { f.Class = 5 }, api.ErrKind}, {func(f *api.Func) { f.Kinds[1] = 9 }, api.ErrKind}, {func(f *api.Func) { f.Pad = 4097 }, api.ErrRange}, {func(f *api.Func) { f.Pad = -1 }, api.ErrRange},
		{func(f *api.Func) { f.Code = nil }, api.ErrForm}, {func(f *api.Func) { f.Code = make([]api.Instr, 65) }, api.ErrLong}, {func(f *api.Func) { f.Code[1].Op = api.OpNop }, api.ErrFlow}, {func(f *api.Func) { f.Code[1].A = 256 }, api.ErrRange}, {func(f *api.Func) { f.Code[1].B = 1 }, api.ErrArg}, {func(f *api.Func) { f.Code[0] = api.Instr{Op: api.OpCheck} }, api.ErrKind}, {func(f *api.Func) { f.Code[0].Op = 29 }, api.ErrKind},
		{func(f *api.Func) { f.To = 3 }, api.ErrRange}, {func(f *api.Func) { f.From = -1 }, api.ErrRange}, {func(f *api.Func) { f.From, f.To = 2, 1 }, api.ErrRange}, {func(f *api.Func) { f.Lines = make([]api.Line, 17) }, api.ErrLong}, {func(f *api.Func) { f.Lines[0].At = 1 }, api.ErrRange}, {func(f *api.Func) { f.Relocs = []api.Reloc{ref(2, 0)} }, api.ErrReloc}, {func(f *api.Func) { f.Relocs = []api.Reloc{ref(0, 32)} }, api.ErrReloc}, {func(f *api.Func) { f.Relocs = []api.Reloc{ref(1, 0), ref(0, 0)} }, api.ErrReloc}, {func(f *api.Func) { f.Relocs = []api.Reloc{ref(1, 0), ref(1, 0)} }, api.ErrReloc},
	} {
		f := good()
		c.change(&f)
		if e, at := verify.Check(f, l); e != c.want || at != -1 {
			t.Errorf("%d: %v, %d; want %v, -1", i, e, at, c.want)
		}
		// Also where an instruction may not be.
		f = good()
		f.Code[0].A = 1
		if e, at := verify.Check(f, l); e != api.ErrKind || at != 0 {
			t.Errorf("%v, %d", e, at)
		}
		c.change(&f)
		if e, at := verify.Check(f, l); e != c.want || at != -1 {
			t.Errorf("%d, and an instruction: %v, %d; want %v, -1", i, e, at, c.want)
		}
	}
	if e, at := verify.Check(api.Func{}, nil); e != api.ErrForm || at != -1 {
		t.Errorf("of nothing: %v, %d", e, at)
	}
}

// bad is an instruction that may not be, and why.
type bad struct {
	item
	why api.Errno
}

// wrong are some that may not be in a function of class 0 with slots, though they have a form.
func wrong() []bad {
	return []bad{
		{item{api.Instr{Op: api.OpLoad, B: 1}, none}, api.ErrReloc},
		{item{api.Instr{Op: api.OpOut, A: 13}, none}, api.ErrKind},
		{item{api.Instr{Op: api.OpIn, A: 16}, none}, api.ErrRange},
		{item{api.Instr{Op: api.OpVia, C: 8}, none}, api.ErrClass},
		{item{api.Instr{Op: api.OpReturn, A: 1}, none}, api.ErrArg},
		{item{api.Instr{Op: api.OpNop}, symFunc}, api.ErrReloc},
		{item{api.Instr{Op: api.OpStore}, symFunc}, api.ErrKind},
		{item{api.Instr{Op: api.OpVia, A: 14, B: slotFunc + 7, C: 7}, none}, api.ErrRange},
		{item{api.Instr{Op: api.OpDefer}, symFunc + 1}, api.ErrClass},
		{item{api.Instr{Op: api.OpCall, A: 1}, symFunc}, api.ErrArg},
		{item{api.Instr{Op: api.OpFunc, A: slotFunc}, symFunc + 7}, api.ErrKind},
		{item{api.Instr{Op: api.OpPick, A: slotFunc + 1, B: 13}, symData + 2}, api.ErrKind},
	}
}

// longer is a function of n instructions, of which each that has an item in m is that one.
func longer(n int, m map[int]item) api.Func {
	f := api.Func{Kinds: slots(), Code: slices.Repeat([]api.Instr{last}, n)}
	for i := range n {
		put, ok := m[i]
		if ok {
			f.Code[i] = put.x
		}
		if ok && put.sym != none {
			f.Relocs = append(f.Relocs, ref(i, put.sym))
		}
	}
	return f
}

// P17.1: Check tells the first instruction that may not be, and its place, also one to which control does not come.
func TestCheckPlace(t *testing.T) {
	l := symbols()
	holds := func(f api.Func, want api.Errno, place int) {
		t.Helper()
		if e, at := verify.Check(f, l); e != want || at != place {
			t.Errorf("Check(%v) = %v, %d; want %v, %d", f, e, at, want, place)
		}
	}
	for n := 2; n <= 64; n++ {
		holds(longer(n, nil), api.OK, -1)
		for at := range n - 1 {
			for i, w := range wrong() {
				holds(longer(n, map[int]item{at: w.item}), w.why, at)
				other := wrong()[(i+at)%len(wrong())]
				behind := at + 1 + i%5
				if behind < n-1 {
					holds(longer(n, map[int]item{at: w.item, behind: other.item}), w.why, at)
					holds(longer(n, map[int]item{at: other.item, behind: w.item}), other.why, at)
				}
			}
		}
	}
}

// P17.1, each operation, one behind the other, in one function: all may be.
func TestCheckAll(t *testing.T) {
	var f api.Func
	f.Kinds = slots()
	all(func(x api.Instr, sym int) {
		if x.Op == api.OpJump || x.Op == api.OpZero {
			x.N = int64(len(f.Code))
		}
		if sym != none {
			f.Relocs = append(f.Relocs, api.Reloc{At: len(f.Code), Sym: sym, Wide: sym%2 == 0})
		}
		f.Code = append(f.Code, x)
	})
	if e, at := verify.Check(f, symbols()); e != api.OK || at != -1 || len(f.Code) != 24 {
		t.Errorf("Check = %v, %d", e, at)
	}
	// Each that refers is wrong among no symbols; the first one is told.
	if e, at := verify.Check(f, nil); e != api.ErrReloc || at != api.OpLoad-1 {
		t.Errorf("Check among no symbols = %v, %d", e, at)
	}
}

// P17.2: the Sym of the first reference at a place, whatever it is; -1 where there is none.
func TestSym(t *testing.T) {
	f := api.Func{Relocs: []api.Reloc{ref(3, 7), ref(1, 5), ref(3, 9), {At: 1, Sym: 6, Wide: true}, ref(0, -1), ref(2, 0), ref(2, 4), ref(-4, 12), ref(math.MaxInt, math.MinInt), ref(math.MinInt, math.MaxInt), ref(70, 71)}}
	want := map[int]int{3: 7, 1: 5, 0: -1, 2: 0, -4: 12, math.MaxInt: math.MinInt, math.MinInt: math.MaxInt, 70: 71}
	for _, code := range [][]api.Instr{nil, {last}, slices.Repeat([]api.Instr{last}, 5), slices.Repeat([]api.Instr{{Op: api.OpCall}}, 80)} {
		f.Code = code
		for _, i := range append(numbers(), -4, 4, 5, 6, 69, 70, 71) {
			sym, ok := want[i]
			if !ok {
				sym = -1
			}
			if got := verify.Sym(f, i); got != sym {
				t.Errorf("Sym at %d is %d; want %d", i, got, sym)
			}
			if got := verify.Sym(api.Func{Code: code}, i); got != -1 {
				t.Errorf("without references, Sym at %d is %d", i, got)
			}
		}
	}
}

// P17.2: which class an instruction calls, of each operation, and of each symbol.
func TestClass(t *testing.T) {
	l := symbols()
	holds := func(f api.Func, l []api.Symbol, i, want int, is bool) {
		t.Helper()
		if class, ok := verify.Class(f, l, i); class != want || ok != is {
			t.Errorf("Class(%v, %d) = %d, %v; want %d, %v", f, i, class, ok, want, is)
		}
	}
	for op := -1; op < 31; op++ {
		for _, a := range []int{0, 99} { // whether it may be or not
			for sym, s := range l {
				class, ok := 0, false
				if (op == api.OpCall || op == api.OpDefer) && s.Sort == api.SymFunc && s.Kind >= 0 && s.Kind <= 7 {
					class, ok = s.Kind, true
				}
				if op == api.OpVia {
					class, ok = 5, true
				}
				holds(of(api.Instr{Op: op, A: a, C: 5}, sym), l, 0, class, ok)
			}
			for _, c := range append(numbers(), 4, 5, 6) {
				class, ok := 0, false
				if op == api.OpVia && c >= 0 && c <= 7 {
					class, ok = c, true
				}
				holds(of(api.Instr{Op: op, A: a, B: a, C: c}), l, 0, class, ok)
				holds(of(api.Instr{Op: op, A: a, B: a, C: c}), nil, 0, class, ok)
			}
		}
	}
	for _, op := range []int{api.OpCall, api.OpDefer} {
		x := api.Instr{Op: op, C: 3}
		// No reference, and one to no symbol.
		holds(of(x), l, 0, 0, false)
		holds(of(x, symFunc+5), l[:5], 0, 0, false)
		holds(of(x, symFunc+5), nil, 0, 0, false)
		for _, sym := range append(without(0, len(l)-1), len(l)) {
			f := of(x)
			f.Relocs = []api.Reloc{ref(0, sym)}
			holds(f, l, 0, 0, false)
		}
		// The first one of two, and that of its own place.
		holds(of(x, symFunc+5, symFunc+2), l, 0, 5, true)
		holds(of(x, symData+5, symFunc+2), l, 0, 0, false)
		holds(of(x, 9999, symFunc+2), l, 0, 0, false)
		f := api.Func{Code: []api.Instr{x, {Op: api.OpVia, C: 6}, x, last}, Relocs: []api.Reloc{ref(2, symFunc+7), ref(0, symFunc+1)}}
		holds(f, l, 0, 1, true)
		holds(f, l, 1, 6, true)
		holds(f, l, 2, 7, true)
		holds(f, l, 3, 0, false)
	}
}

// P17.2: Class of an instruction that there is not, also where there is a reference.
func TestClassNone(t *testing.T) {
	l := symbols()
	for _, op := range []int{api.OpCall, api.OpDefer, api.OpVia} {
		for _, n := range []int{0, 1, 3, 70} {
			f := api.Func{Code: slices.Repeat([]api.Instr{{Op: op, C: 2}}, n)}
			for _, i := range append(numbers(), n, n+1, -n) {
				f.Relocs = []api.Reloc{ref(i, symFunc+2)}
				class, ok := verify.Class(f, l, i)
				if want := i >= 0 && i < n; ok != want || want && class != 2 || !want && class != 0 {
					t.Errorf("of %d, Class at %d = %d, %v", n, i, class, ok)
				}
			}
		}
	}
}

// slot is what the oracle asks of an operand: a slot of a kind, or, unused, 0.
type slot struct {
	at, kind int
	unused   bool
}

// slotsOracle are those of an instruction, in order, operation by operation; s is the symbol to which it refers.
func slotsOracle(f api.Func, x api.Instr, s api.Symbol) []slot {
	a, b, c := slot{at: x.A}, slot{at: x.B}, slot{at: x.C}
	unused := slot{at: x.A, unused: true}
	call := func(class int) []slot {
		if class < 1 || class > 7 {
			return []slot{unused}
		}
		return []slot{a, {at: x.A + 1}, {at: x.A + 2}}[:max(1, params(class))]
	}
	switch x.Op {
	case api.OpSet, api.OpIn, api.OpOut, api.OpPanic, api.OpZero:
		return []slot{a}
	case api.OpMove, api.OpLoad, api.OpStore, api.OpRecover:
		return []slot{a, b}
	case api.OpAdd, api.OpSub, api.OpMul, api.OpDiv, api.OpMod, api.OpLess, api.OpSame:
		return []slot{a, b, c}
	case api.OpFunc:
		return []slot{{at: x.A, kind: s.Kind + 1}}
	case api.OpPick:
		return []slot{{at: x.A, kind: s.Kind}, b}
	case api.OpCall:
		return call(s.Kind)
	case api.OpVia:
		return append(call(x.C), slot{at: x.B, kind: x.C + 1})
	case api.OpDefer:
		if s.Kind == 2 {
			return []slot{a}
		}
		return []slot{unused}
	case api.OpReturn:
		if slices.Contains([]int{1, 3, 5, 7}, f.Class) {
			return []slot{a}
		}
		return []slot{unused}
	}
	return nil
}

// instrOracle is what Instr says, by the words.
func instrOracle(f api.Func, l []api.Symbol, i int) api.Errno {
	if i < 0 || i >= len(f.Code) {
		return api.ErrArg
	}
	x := f.Code[i]
	at := slices.IndexFunc(f.Relocs, func(r api.Reloc) bool { return r.At == i })
	var s api.Symbol
	switch x.Op {
	case api.OpLoad, api.OpStore, api.OpFunc, api.OpPick, api.OpCall, api.OpDefer:
		if at < 0 || f.Relocs[at].Sym < 0 || f.Relocs[at].Sym >= len(l) {
			return api.ErrReloc
		}
		s = l[f.Relocs[at].Sym]
	default:
		if at >= 0 {
			return api.ErrReloc
		}
	}
	fits := true
	switch x.Op {
	case api.OpLoad, api.OpStore:
		fits = s.Sort == 2 && s.Kind == 0
	case api.OpPick:
		fits = s.Sort == 2 && 1 <= s.Kind && s.Kind <= 8
	case api.OpFunc, api.OpCall, api.OpDefer:
		fits = s.Sort == 1
	}
	if !fits {
		return api.ErrKind
	}
	if x.Op == api.OpVia && (x.C < 0 || x.C > 7) || x.Op == api.OpDefer && s.Kind != 0 && s.Kind != 2 {
		return api.ErrClass
	}
	for _, o := range slotsOracle(f, x, s) {
		switch {
		case o.unused && o.at != 0:
			return api.ErrArg
		case o.unused:
		case o.at < 0 || o.at >= len(f.Kinds):
			return api.ErrRange
		case f.Kinds[o.at] != o.kind:
			return api.ErrKind
		}
	}
	return api.OK
}

// symbols are some, most of them of sorts, classes and kinds that there are.
func (c *chance) symbols() []api.Symbol {
	var l []api.Symbol
	for range c.next(6) {
		s := api.Symbol{Sort: 1 + c.next(2), Kind: c.next(9)}
		if c.next(20) == 0 {
			s.Kind = numbers()[c.next(len(numbers()))]
		}
		if c.next(20) == 0 {
			s.Sort = c.next(4)
		}
		if c.next(3) == 0 {
			s.Kind = 0
		}
		l = append(l, s)
	}
	return l
}

// some is a function of any code; mostly its operands are slots, and its references symbols.
func (c *chance) some() api.Func {
	f := api.Func{Class: c.next(8)}
	for range 3 + c.next(5) {
		f.Kinds = append(f.Kinds, max(0, c.next(16)-7))
	}
	slot := func() int {
		if c.next(60) == 0 {
			return numbers()[c.next(len(numbers()))]
		}
		return c.next(len(f.Kinds)+2) * c.next(3) / 2
	}
	for i := range 1 + c.next(5) {
		x := api.Instr{Op: 1 + c.next(24), A: slot(), B: slot(), C: slot(), N: int64(c.next(5))}
		if c.next(20) == 0 {
			x.Op = c.next(31)
		}
		f.Code = append(f.Code, x)
		refers := []int{api.OpLoad, api.OpStore, api.OpFunc, api.OpPick, api.OpCall, api.OpDefer}
		if slices.Contains(refers, x.Op) != (c.next(10) == 0) {
			f.Relocs = append(f.Relocs, ref(i, c.next(6)))
		}
		if c.next(10) == 0 {
			f.Relocs = append(f.Relocs, ref(c.next(5), c.next(8)-1))
		}
	}
	return f
}

// copied is a function that shares nothing with f.
func copied(f api.Func) api.Func {
	f.Kinds, f.Lines, f.Code, f.Relocs = slices.Clone(f.Kinds), slices.Clone(f.Lines), slices.Clone(f.Code), slices.Clone(f.Relocs)
	return f
}

// same tells whether two functions are alike.
func same(a, b api.Func) bool {
	return a.Class == b.Class && slices.Equal(a.Kinds, b.Kinds) && a.Pad == b.Pad && a.Nosplit == b.Nosplit && a.From == b.From && a.To == b.To && slices.Equal(a.Lines, b.Lines) && slices.Equal(a.Code, b.Code) && slices.Equal(a.Relocs, b.Relocs)
}

// tidy is f, changed so that it has a form, mostly.
func tidy(f api.Func) api.Func {
	f.Kinds = append(make([]int, params(f.Class)), f.Kinds...)
	for at, x := range f.Code {
		for i, letter := range op.Shape(x.Op) {
			switch letter {
			case '-':
				x = instr.With(x, i, 0)
			case 't':
				x = instr.With(x, i, int64(at))
			}
		}
		f.Code[at] = x
	}
	f.Code = append(f.Code, api.Instr{Op: api.OpPanic})
	slices.SortStableFunc(f.Relocs, func(a, b api.Reloc) int { return a.At - b.At })
	f.Relocs = slices.CompactFunc(f.Relocs, func(a, b api.Reloc) bool { return a.At == b.At })
	return f
}

// P17.1, many functions and symbols; what is handed in is not changed.
func TestMany(t *testing.T) {
	c := chance(21)
	told := map[api.Errno]int{}
	forms := 0
	for i := range 60000 {
		f, l := c.some(), c.symbols()
		if i%2 == 0 {
			f = tidy(f)
		}
		kept, symbols := copied(f), slices.Clone(l)
		want, place := fun.Check(f), -1
		if want == api.OK {
			forms++
		}
		for i := range f.Code {
			e := instrOracle(f, l, i)
			if got := verify.Instr(f, l, i); got != e {
				t.Fatalf("Instr(%v, %v, %d) = %v; want %v", f, l, i, got, e)
			}
			if want == api.OK && e != api.OK {
				want, place = e, i
			}
			told[e]++
		}
		if e, at := verify.Check(f, l); e != want || at != place {
			t.Fatalf("Check(%v, %v) = %v, %d; want %v, %d", f, l, e, at, want, place)
		}
		if !same(f, kept) || !slices.Equal(l, symbols) {
			t.Fatalf("%v, %v: what is handed in is changed", kept, symbols)
		}
	}
	for _, e := range []api.Errno{api.OK, api.ErrReloc, api.ErrKind, api.ErrClass, api.ErrRange, api.ErrArg} {
		if told[e] < 500 {
			t.Errorf("%v was told %d times", e, told[e])
		}
	}
	if forms < 5000 {
		t.Errorf("%d functions have a form", forms)
	}
}

// P17.3: what is right among some symbols is right among these, and more behind them.
func TestFollows(t *testing.T) {
	c := chance(22)
	good := 0
	for range 60000 {
		f, l := c.some(), c.symbols()
		f.Code = f.Code[:1]
		if c.next(2) == 0 {
			f = tidy(f)
		}
		more := slices.Concat(l, c.symbols(), symbols()[:c.next(40)])
		e, at := verify.Check(f, l)
		if after, place := verify.Check(f, more); e == api.OK && (after != e || place != at) {
			t.Fatalf("%v is right among %v, and %v, %d among %v", f, l, after, place, more)
		}
		for i := range f.Code {
			e := verify.Instr(f, l, i)
			if e == api.OK {
				good++
			}
			if after := verify.Instr(f, more, i); after != e && e != api.ErrReloc {
				t.Fatalf("%v is %v among %v, and %v among %v", f, e, l, after, more)
			}
			class, ok := verify.Class(f, l, i)
			if same, is := verify.Class(f, more, i); ok && (same != class || !is) {
				t.Fatalf("%v calls %d among %v, and %d, %v among %v", f, class, l, same, is, more)
			}
		}
	}
	if good < 5000 {
		t.Errorf("%d were right", good)
	}
}

// P7: each call ends at all arguments, and answers alike when it is asked again.
func TestEnds(t *testing.T) {
	c := chance(23)
	pick := func() int { return numbers()[c.next(len(numbers()))] }
	for range 8000 {
		f := api.Func{Class: pick(), Pad: pick(), From: pick(), To: pick()}
		var l []api.Symbol
		for range c.next(4) {
			f.Kinds = append(f.Kinds, pick())
			f.Lines = append(f.Lines, api.Line{At: pick(), Line: pick()})
			f.Relocs = append(f.Relocs, ref(pick(), pick()), ref(c.next(4), c.next(4)))
			f.Code = append(f.Code, api.Instr{Op: c.next(31) - 1, A: pick(), B: pick(), C: pick(), N: int64(pick())})
			l = append(l, api.Symbol{Name: "?", Sort: 1 + c.next(2), Kind: pick(), Def: pick()})
		}
		if c.next(10) == 0 && len(f.Code) > 0 {
			f.Code[0].Op = pick()
		}
		for _, i := range append(numbers(), 0, 1, 2) {
			if e := verify.Instr(f, l, i); e != instrOracle(f, l, i) || e != verify.Instr(f, l, i) {
				t.Fatalf("Instr(%v, %v, %d) = %v", f, l, i, e)
			}
			if verify.Sym(f, i) != verify.Sym(f, i) {
				t.Fatalf("Sym(%v, %d)", f, i)
			}
			class, ok := verify.Class(f, l, i)
			if again, is := verify.Class(f, l, i); again != class || is != ok || !ok && class != 0 {
				t.Fatalf("Class(%v, %v, %d) = %d, %v", f, l, i, class, ok)
			}
		}
		e, at := verify.Check(f, l)
		if again, place := verify.Check(f, l); again != e || place != at || e == api.OK && at != -1 {
			t.Fatalf("Check(%v, %v) = %v, %d", f, l, e, at)
		}
	}
	for _, i := range numbers() {
		if e := verify.Instr(api.Func{}, nil, i); e != api.ErrArg {
			t.Errorf("of nothing, Instr at %d: %v", i, e)
		}
		if sym := verify.Sym(api.Func{}, i); sym != -1 {
			t.Errorf("of nothing, Sym at %d: %d", i, sym)
		}
		if class, ok := verify.Class(api.Func{}, nil, i); class != 0 || ok {
			t.Errorf("of nothing, Class at %d: %d, %v", i, class, ok)
		}
	}
}

// P7: lists as long as may be are gone through in time.
func TestLong(t *testing.T) {
	const n = 1 << 19
	f := api.Func{Kinds: make([]int, n), Code: slices.Repeat([]api.Instr{{Op: api.OpCall, A: n - 2}}, n), Relocs: make([]api.Reloc, n)}
	l := make([]api.Symbol, n)
	for i := range n {
		f.Relocs[i] = ref(i, n-1-i)
		l[i] = api.Symbol{Sort: api.SymFunc, Kind: i % 8}
	}
	for i := n - 8; i < n; i++ {
		want := api.OK
		switch (n - 1 - i) % 8 {
		case 0:
			want = api.ErrArg
		case 6, 7:
			want = api.ErrRange
		}
		if e := verify.Instr(f, l, i); e != want {
			t.Errorf("Instr at %d: %v; want %v", i, e, want)
		}
		if sym := verify.Sym(f, i); sym != n-1-i {
			t.Errorf("Sym at %d: %d", i, sym)
		}
		if class, ok := verify.Class(f, l, i); class != (n-1-i)%8 || !ok {
			t.Errorf("Class at %d: %d, %v", i, class, ok)
		}
	}
	if e, at := verify.Check(f, l); e != api.ErrLong || at != -1 {
		t.Errorf("Check = %v, %d", e, at)
	}
	f.Kinds, f.Code = slots(), slices.Repeat([]api.Instr{last}, 64)
	if e, at := verify.Check(f, l); e != api.ErrReloc || at != -1 {
		t.Errorf("Check = %v, %d", e, at)
	}
}
