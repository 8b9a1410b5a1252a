package fun_test

import (
	"bytes"
	"fmt"
	"math"
	"slices"
	"strings"
	"testing"

	"sheerleg/api"
	"sheerleg/flow"
	"sheerleg/fun"
	"sheerleg/instr"
	"sheerleg/octet"
)

const most = 1 << 20

// chance gives numbers that look as if they hung on nothing, always the same ones.
type chance uint64

func (c *chance) next(n int) int {
	*c = *c*6364136223846793005 + 1442695040888963407
	return int(*c >> 33 % chance(n))
}

var (
	nop  = api.Instr{Op: api.OpNop}
	out  = api.Instr{Op: api.OpOut}
	call = api.Instr{Op: api.OpCall, A: 1}
	last = api.Instr{Op: api.OpReturn}
)

// numbers are those that any call may be given.
func numbers() []int {
	return []int{math.MinInt, math.MinInt + 1, -1 << 32, -65536, -256, -2, -1, 0, 1, 2, 3, 7, 8, 9, 15, 16, 17, 31, 32, 63, 64, 65, 255, 256, 4095, 4096, 4097, 65535, 65536, most - 1, most, most + 1, 1 << 31, 1 << 32, 1<<32 + 1, math.MaxInt - 1, math.MaxInt}
}

// without are the numbers that are not from least to greatest; some have the lowest bits of those that are.
func without(least, greatest int) []int {
	l := append(numbers(), least-1, least-2, greatest+1, greatest+2, 256+least, 65536+greatest, 1<<32+greatest, -1<<32+greatest, -greatest-1)
	return slices.DeleteFunc(l, func(n int) bool { return least <= n && n <= greatest })
}

// code is so many instructions, of which the last one returns.
func code(n int) []api.Instr {
	return append(slices.Repeat([]api.Instr{nop}, n-1), last)
}

// good is a function that has a form: of one parameter, and answers.
func good() api.Func {
	return api.Func{
		Class: 3, Kinds: []int{0, 4, 0}, Pad: 70, Nosplit: true, From: 1, To: 3,
		Lines:  []api.Line{{At: 0, Line: 10}, {At: 2, Line: 9}},
		Code:   []api.Instr{nop, call, {Op: api.OpZero, A: 2, N: 1}, out, last},
		Relocs: []api.Reloc{{At: 1, Sym: 5, Wide: true}, {At: 3, Sym: 31}},
	}
}

// with is good, changed.
func with(changes ...func(f *api.Func)) api.Func {
	f := good()
	for _, change := range changes {
		change(&f)
	}
	return f
}

// wants holds Check against an error.
func wants(t *testing.T, f api.Func, want api.Errno) {
	t.Helper()
	if e := fun.Check(f); e != want {
		t.Errorf("Check(%v) = %v; want %v", f, e, want)
	}
}

// same tells whether two functions are alike, of whatever kind their empty lists are.
func same(a, b api.Func) bool {
	return a.Class == b.Class && slices.Equal(a.Kinds, b.Kinds) && a.Pad == b.Pad && a.Nosplit == b.Nosplit && a.From == b.From && a.To == b.To && slices.Equal(a.Lines, b.Lines) && slices.Equal(a.Code, b.Code) && slices.Equal(a.Relocs, b.Relocs)
}

// copied is a function that shares nothing with f.
func copied(f api.Func) api.Func {
	f.Kinds, f.Lines, f.Code, f.Relocs = slices.Clone(f.Kinds), slices.Clone(f.Lines), slices.Clone(f.Code), slices.Clone(f.Relocs)
	return f
}

// P16.1, classes that there are, and others.
func TestCheckClass(t *testing.T) {
	for class := range 8 {
		wants(t, with(func(f *api.Func) { f.Class = class; f.Kinds = make([]int, 3) }), api.OK)
	}
	for _, class := range without(0, 7) {
		wants(t, with(func(f *api.Func) { f.Class = class; f.Kinds = make([]int, 3) }), api.ErrClass)
		wants(t, api.Func{Class: class, Kinds: make([]int, 17), Pad: -1, From: -1}, api.ErrClass)
		wants(t, api.Func{Class: class}, api.ErrClass)
	}
	wants(t, api.Func{Code: []api.Instr{last}}, api.OK)
	wants(t, api.Func{}, api.ErrForm)
}

// P16.1, how many slots there are, of each class.
func TestCheckSlots(t *testing.T) {
	for class := range 8 {
		for slots := range 40 {
			want := api.OK
			if slots > 16 {
				want = api.ErrLong
			}
			if slots < class/2 {
				want = api.ErrArg
			}
			sized := func(f *api.Func) { f.Class = class; f.Kinds = make([]int, slots) }
			wants(t, with(sized), want)
			wants(t, with(sized, func(f *api.Func) { f.Kinds = slices.Clip(f.Kinds); f.Lines, f.Relocs = nil, nil }), want)
			// What is told behind it.
			if want != api.OK && slots > 0 {
				wants(t, with(sized, func(f *api.Func) { f.Kinds[slots-1] = 9 }), want)
				wants(t, with(sized, func(f *api.Func) { f.Kinds[0] = 1; f.Pad = 4097; f.Code = nil }), want)
			}
		}
		wants(t, with(func(f *api.Func) { f.Class = class; f.Kinds = make([]int, 70000) }), api.ErrLong)
	}
}

// P16.1, kinds of slots, and of those that are parameters, at each place.
func TestCheckKinds(t *testing.T) {
	for class := range 8 {
		for at := range 16 {
			kinded := func(kind int) func(f *api.Func) {
				return func(f *api.Func) { f.Class = class; f.Kinds = make([]int, 16); f.Kinds[at] = kind }
			}
			for kind := range 9 {
				want := api.OK
				if kind > 0 && at < class/2 {
					want = api.ErrKind
				}
				wants(t, with(kinded(kind)), want)
			}
			for _, kind := range without(0, 8) {
				wants(t, with(kinded(kind)), api.ErrKind)
				wants(t, with(kinded(kind), func(f *api.Func) { f.Pad = -1; f.Code = nil }), api.ErrKind)
			}
		}
	}
	wants(t, with(func(f *api.Func) { f.Class = 0; f.Kinds = []int{8, 7, 6, 5, 4, 3, 2, 1, 0, 1, 2, 3, 4, 5, 6, 7} }), api.OK)
}

// P16.1, the words beside the slots.
func TestCheckPad(t *testing.T) {
	for _, pad := range []int{0, 1, 2, 255, 256, 4094, 4095, 4096} {
		wants(t, with(func(f *api.Func) { f.Pad = pad }), api.OK)
	}
	for _, pad := range without(0, 4096) {
		wants(t, with(func(f *api.Func) { f.Pad = pad }), api.ErrRange)
		wants(t, with(func(f *api.Func) { f.Pad = pad; f.Code = nil }), api.ErrRange)
	}
}

// bare is a function of code alone.
func bare(l ...api.Instr) api.Func {
	return api.Func{Code: l}
}

// P16.1, where control goes.
func TestCheckFlow(t *testing.T) {
	for n := 1; n <= 64; n++ {
		wants(t, bare(code(n)...), api.OK)
		wants(t, bare(slices.Repeat([]api.Instr{nop}, n)...), api.ErrFlow)
	}
	for _, n := range []int{65, 66, 128, 320, 70000} {
		wants(t, bare(code(n)...), api.ErrLong)
		wants(t, bare(slices.Repeat([]api.Instr{{Op: 99}}, n)...), api.ErrLong)
	}
	for at := range 4 {
		for _, op := range []int{api.OpJump, api.OpZero} {
			for n := int64(-2); n < 7; n++ {
				want := api.OK
				if n < 0 || n > 4 {
					want = api.ErrFlow
				}
				l := code(5)
				l[at] = api.Instr{Op: op, N: n}
				wants(t, bare(l...), want)
			}
		}
	}
	// Ahead of instructions that may not be, also of such as lead nowhere themselves.
	wants(t, bare(api.Instr{Op: 99}, nop), api.ErrFlow)
	wants(t, bare(api.Instr{Op: api.OpCheck}), api.ErrFlow)
	wants(t, bare(api.Instr{Op: api.OpNop, A: 256}, last, api.Instr{Op: api.OpJump, N: 3}), api.ErrFlow)
	wants(t, bare(api.Instr{Op: api.OpJump, A: 1, N: 1}), api.ErrFlow)
	wants(t, bare(api.Instr{Op: api.OpJump, N: math.MaxInt64}), api.ErrFlow)
}

// wrongInstr are instructions that functions may not have, behind which the next place comes, and why.
func wrongInstr() map[api.Instr]api.Errno {
	m := map[api.Instr]api.Errno{
		{}: api.ErrKind, {Op: -1}: api.ErrKind, {Op: 29}: api.ErrKind, {Op: 257}: api.ErrKind, {Op: 1<<32 + 1}: api.ErrKind, {Op: math.MinInt}: api.ErrKind, {Op: math.MaxInt, A: -1}: api.ErrKind,
		{Op: api.OpNop, A: 256}: api.ErrRange, {Op: api.OpNop, A: -1}: api.ErrRange, {Op: api.OpSet, B: 256}: api.ErrRange, {Op: api.OpAdd, C: math.MinInt}: api.ErrRange, {Op: api.OpSet, N: 1 << 31}: api.ErrRange, {Op: api.OpSet, N: -1<<31 - 1}: api.ErrRange, {Op: api.OpSet, N: math.MaxInt64}: api.ErrRange,
		{Op: api.OpNop, A: 1}: api.ErrArg, {Op: api.OpSet, C: 1}: api.ErrArg, {Op: api.OpMove, N: -1}: api.ErrArg, {Op: api.OpCall, B: 255}: api.ErrArg,
	}
	for op := api.OpCheck; op <= api.OpDriver; op++ {
		m[api.Instr{Op: op}] = api.ErrKind
		m[api.Instr{Op: op, A: 3, B: 2, C: 1, N: 70}] = api.ErrKind
		m[api.Instr{Op: op, A: 256}] = api.ErrRange
		m[api.Instr{Op: op, N: 1 << 31}] = api.ErrRange
	}
	return m
}

// P16.1, instructions that may not be, one, and two of them.
func TestCheckInstr(t *testing.T) {
	for op := api.OpNop; op <= api.OpReturn; op++ {
		wants(t, bare(api.Instr{Op: op}, last), api.OK)
		wants(t, bare(api.Instr{Op: op, A: 256}, last), api.ErrRange)
	}
	wants(t, bare(api.Instr{Op: api.OpAdd, A: 255, B: 255, C: 255}, api.Instr{Op: api.OpSet, A: 255, N: -1 << 31}, last), api.OK)
	for x, want := range wrongInstr() {
		wants(t, bare(x, last), want)
		wants(t, bare(last, x, last), want)
		for at := range 63 {
			l := code(64)
			l[at] = x
			wants(t, bare(l...), want)
		}
		for y := range wrongInstr() {
			wants(t, bare(nop, x, y, last), want)
			wants(t, bare(x, nop, last, y, last), want)
		}
	}
	wants(t, bare(api.Instr{Op: api.OpReturn, B: 1}), api.ErrArg)
	wants(t, bare(nop, api.Instr{Op: api.OpPanic, A: 256}), api.ErrRange)
}

// P16.1, the range in which calls may be pending.
func TestCheckRange(t *testing.T) {
	for _, n := range []int{1, 2, 3, 5, 64} {
		ends := append(numbers(), n-2, n-1, n, n+1, n+2, 4, 5, 6)
		for _, from := range ends {
			for _, to := range ends {
				want := api.ErrRange
				if 0 <= from && from <= to && to <= n {
					want = api.OK
				}
				wants(t, api.Func{Code: code(n), From: from, To: to}, want)
			}
		}
	}
}

// lines are so many, at places side by side.
func lines(n int) []api.Line {
	var l []api.Line
	for at := range n {
		l = append(l, api.Line{At: at, Line: at * 7})
	}
	return l
}

// P16.1, lines written out, of 20 instructions.
func TestCheckLines(t *testing.T) {
	for _, c := range []struct {
		l    []api.Line
		want api.Errno
	}{
		{nil, api.OK}, {[]api.Line{}, api.OK}, {[]api.Line{{}}, api.OK}, {lines(16), api.OK}, {[]api.Line{{At: 0, Line: 5}, {At: 19, Line: 5}}, api.OK},
		// As many as there may be, and more: ahead of what else is wrong of them.
		{lines(17), api.ErrLong}, {lines(20), api.ErrLong}, {lines(21), api.ErrLong}, {make([]api.Line, 17), api.ErrLong}, {make([]api.Line, 16), api.ErrRange}, {make([]api.Line, 70000), api.ErrLong}, {slices.Repeat([]api.Line{{At: -1, Line: -1}}, 17), api.ErrLong},
		// The first one is not at 0.
		{[]api.Line{{At: 1}}, api.ErrRange}, {[]api.Line{{At: -1}}, api.ErrRange}, {[]api.Line{{At: 19}}, api.ErrRange}, {[]api.Line{{At: 1}, {At: 2}}, api.ErrRange}, {lines(16)[1:], api.ErrRange}, {[]api.Line{{At: -1}, {At: 0}}, api.ErrRange}, {[]api.Line{{At: math.MinInt}}, api.ErrRange}, {[]api.Line{{At: 1 << 32}}, api.ErrRange},
		// Alike, and falling.
		{[]api.Line{{At: 0}, {At: 0}}, api.ErrRange}, {[]api.Line{{At: 0, Line: 3}, {At: 4, Line: 3}, {At: 4, Line: 5}}, api.ErrRange}, {[]api.Line{{At: 0}, {At: 4}, {At: 3}}, api.ErrRange}, {[]api.Line{{At: 0}, {At: 4}, {At: 3}, {At: 5}}, api.ErrRange}, {[]api.Line{{At: 0}, {At: -1}}, api.ErrRange}, {[]api.Line{{At: 0}, {At: 1}, {At: 0}}, api.ErrRange},
		// Beyond the instructions.
		{[]api.Line{{At: 0}, {At: 20}}, api.ErrRange}, {[]api.Line{{At: 0}, {At: 19}, {At: 20}}, api.ErrRange}, {[]api.Line{{At: 0}, {At: 64}}, api.ErrRange}, {[]api.Line{{At: 0}, {At: math.MaxInt}}, api.ErrRange}, {[]api.Line{{At: 0}, {At: 20}, {At: 5}}, api.ErrRange},
		// A line that may not be.
		{[]api.Line{{Line: 65535}}, api.OK}, {[]api.Line{{Line: 65536}}, api.ErrRange}, {[]api.Line{{Line: -1}}, api.ErrRange}, {[]api.Line{{Line: math.MinInt}}, api.ErrRange}, {[]api.Line{{Line: math.MaxInt}}, api.ErrRange}, {[]api.Line{{Line: 1<<32 + 1}}, api.ErrRange},
		{[]api.Line{{At: 0, Line: 65535}, {At: 3, Line: 0}, {At: 5, Line: 65536}}, api.ErrRange}, {[]api.Line{{At: 0, Line: 1}, {At: 3, Line: -1}, {At: 5, Line: 2}}, api.ErrRange}, {[]api.Line{{At: 0, Line: -1}, {At: 3, Line: 1}}, api.ErrRange},
	} {
		wants(t, api.Func{Code: code(20), Lines: c.l}, c.want)
		if c.want == api.OK {
			wants(t, api.Func{Code: code(20), Lines: c.l, Relocs: []api.Reloc{{At: 20}}}, api.ErrReloc)
			continue
		}
		wants(t, api.Func{Code: code(20), Lines: c.l, Relocs: []api.Reloc{{At: 20}}}, c.want)
		wants(t, api.Func{Code: code(20), Lines: c.l, From: 1}, api.ErrRange)
	}
	for n := 1; n <= 16; n++ {
		wants(t, api.Func{Code: code(n), Lines: lines(n)}, api.OK)
		wants(t, api.Func{Code: code(n), Lines: append(lines(n-1), api.Line{At: n})}, api.ErrRange)
	}
}

// P16.1, references written out, of 20 instructions.
func TestCheckReferences(t *testing.T) {
	refs := func(l ...api.Reloc) []api.Reloc { return l }
	for _, c := range []struct {
		l    []api.Reloc
		want api.Errno
	}{
		{nil, api.OK}, {refs(), api.OK}, {refs(api.Reloc{}), api.OK}, {refs(api.Reloc{At: 19, Sym: 31, Wide: true}), api.OK}, {refs(api.Reloc{At: 3, Sym: 7}, api.Reloc{At: 4, Sym: 7}), api.OK},
		// At no instruction.
		{refs(api.Reloc{At: -1}), api.ErrReloc}, {refs(api.Reloc{At: 20}), api.ErrReloc}, {refs(api.Reloc{At: 21}), api.ErrReloc}, {refs(api.Reloc{At: math.MinInt}), api.ErrReloc}, {refs(api.Reloc{At: math.MaxInt}), api.ErrReloc}, {refs(api.Reloc{At: 1 << 32}), api.ErrReloc}, {refs(api.Reloc{At: 256}), api.ErrReloc}, {refs(api.Reloc{At: 3}, api.Reloc{At: 20}), api.ErrReloc}, {refs(api.Reloc{At: -1}, api.Reloc{At: 3}), api.ErrReloc}, {refs(api.Reloc{At: 20}, api.Reloc{At: 3}), api.ErrReloc},
		// Alike, and falling.
		{refs(api.Reloc{At: 3}, api.Reloc{At: 3}), api.ErrReloc}, {refs(api.Reloc{}, api.Reloc{}), api.ErrReloc}, {refs(api.Reloc{At: 3}, api.Reloc{At: 2}), api.ErrReloc}, {refs(api.Reloc{At: 3}, api.Reloc{At: 5}, api.Reloc{At: 4}, api.Reloc{At: 6}), api.ErrReloc}, {refs(api.Reloc{At: 3}, api.Reloc{At: 5}, api.Reloc{At: 5}), api.ErrReloc}, {refs(api.Reloc{}, api.Reloc{At: -1}), api.ErrReloc},
		// A Sym that objects may not have.
		{refs(api.Reloc{Sym: 0}), api.OK}, {refs(api.Reloc{Sym: 31}), api.OK}, {refs(api.Reloc{Sym: 32}), api.ErrReloc}, {refs(api.Reloc{Sym: -1}), api.ErrReloc}, {refs(api.Reloc{Sym: 33}), api.ErrReloc}, {refs(api.Reloc{Sym: 256}), api.ErrReloc}, {refs(api.Reloc{Sym: math.MinInt}), api.ErrReloc}, {refs(api.Reloc{Sym: math.MaxInt}), api.ErrReloc}, {refs(api.Reloc{Sym: 1<<32 + 1}), api.ErrReloc},
		{refs(api.Reloc{At: 1, Sym: 4}, api.Reloc{At: 2, Sym: 32}), api.ErrReloc}, {refs(api.Reloc{At: 1, Sym: -1}, api.Reloc{At: 2, Sym: 3}), api.ErrReloc}, {refs(api.Reloc{At: 1, Sym: 1}, api.Reloc{At: 2, Sym: 32}, api.Reloc{At: 3, Sym: 1}), api.ErrReloc},
	} {
		wants(t, api.Func{Code: code(20), Relocs: c.l}, c.want)
		wants(t, api.Func{Code: code(20), Relocs: c.l, Lines: lines(16)}, c.want)
		wants(t, api.Func{Code: code(20), Relocs: c.l, Lines: lines(17)}, api.ErrLong)
	}
	for n := 1; n <= 64; n++ {
		var all []api.Reloc
		for at := range n {
			all = append(all, api.Reloc{At: at, Sym: at % 32, Wide: at%3 == 0})
		}
		wants(t, api.Func{Code: code(n), Relocs: all}, api.OK)
		wants(t, api.Func{Code: code(n), Relocs: append(all, api.Reloc{At: n})}, api.ErrReloc)
	}
}

// P16.1, two things that are wrong at different places: what is named first is told.
func TestCheckOrder(t *testing.T) {
	wants(t, good(), api.OK)
	type wrong struct {
		why  api.Errno
		does func(f *api.Func)
	}
	// Of each list one thing may be wrong at a time; the lists are in the order in which they are told.
	lists := [][]wrong{
		{{api.ErrClass, func(f *api.Func) { f.Class = 8 }}, {api.ErrClass, func(f *api.Func) { f.Class = -1 }}},
		{{api.ErrLong, func(f *api.Func) { f.Kinds = make([]int, 17) }}, {api.ErrArg, func(f *api.Func) { f.Kinds = nil }}, {api.ErrKind, func(f *api.Func) { f.Kinds = []int{0, 9} }}, {api.ErrKind, func(f *api.Func) { f.Kinds = []int{1} }}},
		{{api.ErrRange, func(f *api.Func) { f.Pad = -1 }}, {api.ErrRange, func(f *api.Func) { f.Pad = 4097 }}},
		{{api.ErrForm, func(f *api.Func) { f.Code = nil }}, {api.ErrLong, func(f *api.Func) { f.Code = code(65) }}, {api.ErrFlow, func(f *api.Func) { f.Code = []api.Instr{nop} }}, {api.ErrKind, func(f *api.Func) { f.Code = []api.Instr{{Op: 99}, last} }}, {api.ErrArg, func(f *api.Func) { f.Code = []api.Instr{{Op: api.OpNop, A: 1}, last} }}, {api.ErrKind, func(f *api.Func) { f.Code = []api.Instr{{Op: api.OpEnter}, last} }}},
		{{api.ErrRange, func(f *api.Func) { f.From = -1 }}, {api.ErrRange, func(f *api.Func) { f.To = 6 }}, {api.ErrRange, func(f *api.Func) { f.From, f.To = 2, 1 }}},
		{{api.ErrLong, func(f *api.Func) { f.Lines = make([]api.Line, 17) }}, {api.ErrRange, func(f *api.Func) { f.Lines = []api.Line{{At: 1}} }}, {api.ErrRange, func(f *api.Func) { f.Lines = []api.Line{{Line: -1}} }}},
		{{api.ErrReloc, func(f *api.Func) { f.Relocs = []api.Reloc{{At: -1}} }}, {api.ErrReloc, func(f *api.Func) { f.Relocs = []api.Reloc{{Sym: 32}} }}},
	}
	for i, l := range lists {
		for _, x := range l {
			wants(t, with(x.does), x.why)
			for _, behind := range lists[i+1:] {
				for _, y := range behind {
					wants(t, with(x.does, y.does), x.why)
					wants(t, with(y.does, x.does), x.why)
				}
			}
		}
	}
}

// checkOracle is what Check says, its words gone through one by one.
func checkOracle(f api.Func) api.Errno {
	within := func(n, least, greatest int) bool { return least <= n && n <= greatest }
	if !within(f.Class, 0, 7) {
		return api.ErrClass
	}
	if len(f.Kinds) > 16 {
		return api.ErrLong
	}
	if len(f.Kinds) < f.Class/2 {
		return api.ErrArg
	}
	for i, kind := range f.Kinds {
		if !within(kind, 0, 8) || i < f.Class/2 && kind != 0 {
			return api.ErrKind
		}
	}
	if !within(f.Pad, 0, 4096) {
		return api.ErrRange
	}
	if e := flow.Check(f.Code); e != api.OK {
		return e
	}
	for _, x := range f.Code {
		if e := instr.Check(x); e != api.OK {
			return e
		}
		if x.Op > 24 {
			return api.ErrKind
		}
	}
	if f.From < 0 || f.To < f.From || len(f.Code) < f.To {
		return api.ErrRange
	}
	if len(f.Lines) > 16 {
		return api.ErrLong
	}
	for i, x := range f.Lines {
		if i == 0 && x.At != 0 || !within(x.At, 0, len(f.Code)-1) || i > 0 && x.At <= f.Lines[i-1].At || !within(x.Line, 0, 65535) {
			return api.ErrRange
		}
	}
	for i, x := range f.Relocs {
		if !within(x.At, 0, len(f.Code)-1) || i > 0 && x.At <= f.Relocs[i-1].At || !within(x.Sym, 0, 31) {
			return api.ErrReloc
		}
	}
	return api.OK
}

// some is a function that has a form.
func (c *chance) some() api.Func {
	f := api.Func{Class: c.next(8), Pad: c.next(4097), Nosplit: c.next(2) == 0}
	f.Kinds = make([]int, f.Class/2)
	for range c.next(17 - f.Class/2) {
		f.Kinds = append(f.Kinds, c.next(9))
	}
	n := 1 + c.next(12)
	if c.next(8) == 0 {
		n = 64
	}
	for at := range n {
		x := []api.Instr{nop, out, call, last, {Op: api.OpJump, N: int64(c.next(n))}, {Op: api.OpZero, A: 3, N: int64(c.next(n))}, {Op: api.OpSet, A: 255, N: int64(c.next(1<<32) - 1<<31)}, {Op: api.OpVia, A: 1, B: 2, C: 5}}[c.next(8)]
		if at == n-1 {
			x = last
		}
		f.Code = append(f.Code, x)
		if at == 0 || c.next(4) == 0 {
			f.Lines = append(f.Lines, api.Line{At: at, Line: c.next(65536)})
		}
		if c.next(3) == 0 {
			f.Relocs = append(f.Relocs, api.Reloc{At: at, Sym: c.next(32), Wide: c.next(2) == 0})
		}
	}
	f.Lines = f.Lines[:min(len(f.Lines), c.next(17))]
	f.From = c.next(n + 1)
	f.To = f.From + c.next(n+1-f.From)
	return f
}

// spoil changes one number of f.
func (c *chance) spoil(f *api.Func) {
	fields := []*int{&f.Class, &f.Pad, &f.From, &f.To}
	for i := range f.Kinds {
		fields = append(fields, &f.Kinds[i])
	}
	for i := range f.Lines {
		fields = append(fields, &f.Lines[i].At, &f.Lines[i].Line)
	}
	for i := range f.Code {
		fields = append(fields, &f.Code[i].Op, &f.Code[i].A)
	}
	for i := range f.Relocs {
		fields = append(fields, &f.Relocs[i].At, &f.Relocs[i].Sym)
	}
	field := fields[c.next(len(fields))]
	switch c.next(3) {
	case 0:
		*field++
	case 1:
		*field--
	case 2:
		*field = numbers()[c.next(len(numbers()))]
	}
}

// P16.1, many functions.
func TestCheckMany(t *testing.T) {
	c := chance(16)
	told := map[api.Errno]int{}
	for i := range 60000 {
		f := c.some()
		wants(t, f, api.OK)
		for range i % 4 {
			c.spoil(&f)
		}
		want := checkOracle(f)
		told[want]++
		wants(t, f, want)
	}
	for _, e := range []api.Errno{api.OK, api.ErrClass, api.ErrArg, api.ErrKind, api.ErrRange, api.ErrFlow, api.ErrReloc} {
		if told[e] < 300 {
			t.Errorf("%v was asked for %d times", e, told[e])
		}
	}
}

// P16.2, a frame's words.
func TestFrame(t *testing.T) {
	for _, c := range []struct{ slots, pad, want int }{
		{0, 0, 0}, {0, 1, 1}, {1, 0, 1}, {3, 70, 73}, {16, 4096, 4112}, {16, 4097, 4113},
		{0, -1, 0}, {5, -1, 5}, {5, -70, 5}, {5, math.MinInt, 5}, {5, math.MinInt + 1, 5},
		{0, most - 1, most - 1}, {0, most, most}, {0, most + 1, most}, {7, most - 1, most + 6}, {7, most, most + 7}, {7, most + 1, most + 7}, {7, 1 << 32, most + 7}, {7, math.MaxInt, most + 7}, {7, math.MaxInt - 1, most + 7},
		{17, 2, 19}, {70000, 5, 70005}, {70000, math.MaxInt, most + 70000},
	} {
		for _, rest := range []api.Func{{}, good(), {Class: -1, Code: code(70), From: -1, To: -1}} {
			rest.Kinds, rest.Pad = slices.Repeat([]int{9}, c.slots), c.pad
			if got := fun.Frame(rest); got != c.want {
				t.Errorf("Frame of %d slots and %d = %d; want %d", c.slots, c.pad, got, c.want)
			}
		}
	}
	if got := fun.Frame(api.Func{Code: []api.Instr{last}}); got != 0 {
		t.Errorf("Frame of nothing = %d", got)
	}
}

// P16.2, lines written out.
func TestLine(t *testing.T) {
	rising := []api.Line{{At: 0, Line: 10}, {At: 3, Line: 20}, {At: 4, Line: 5}, {At: 9, Line: 10}}
	later := []api.Line{{At: 3, Line: 7}, {At: 7, Line: 8}}
	falling := []api.Line{{At: 5, Line: 1}, {At: 3, Line: 2}, {At: 0, Line: 3}}
	mixed := []api.Line{{At: 0, Line: 1}, {At: 7, Line: 2}, {At: 2, Line: 3}, {At: 8, Line: 4}, {At: 1, Line: 5}}
	twice := []api.Line{{At: 2, Line: 1}, {At: 2, Line: 2}, {At: 2, Line: 3}}
	odd := []api.Line{{At: math.MinInt, Line: -7}, {At: math.MaxInt, Line: math.MaxInt}}
	for _, c := range []struct {
		l       []api.Line
		i, want int
	}{
		{nil, 0, 0}, {nil, -1, 0}, {[]api.Line{}, math.MaxInt, 0},
		// Ahead of the first one, at each, between two, behind the last one.
		{rising, -1, 0}, {rising, math.MinInt, 0}, {rising, 0, 10}, {rising, 1, 10}, {rising, 2, 10}, {rising, 3, 20}, {rising, 4, 5}, {rising, 5, 5}, {rising, 8, 5}, {rising, 9, 10}, {rising, 10, 10}, {rising, 1000, 10}, {rising, math.MaxInt, 10},
		{later, -1, 0}, {later, 0, 0}, {later, 2, 0}, {later, 3, 7}, {later, 6, 7}, {later, 7, 8}, {later, 8, 8},
		// Of lists that don't rise: what is ahead of the first one that is at a place above.
		{falling, -1, 0}, {falling, 0, 0}, {falling, 3, 0}, {falling, 4, 0}, {falling, 5, 3}, {falling, 6, 3},
		{mixed, -1, 0}, {mixed, 0, 1}, {mixed, 1, 1}, {mixed, 2, 1}, {mixed, 6, 1}, {mixed, 7, 3}, {mixed, 8, 5}, {mixed, 9, 5},
		{twice, 1, 0}, {twice, 2, 3}, {twice, 3, 3},
		{odd, math.MinInt, -7}, {odd, 0, -7}, {odd, math.MaxInt - 1, -7}, {odd, math.MaxInt, math.MaxInt},
	} {
		for _, l := range [][]api.Instr{nil, code(1), code(5), code(70)} {
			if got := fun.Line(api.Func{Lines: c.l, Code: l}, c.i); got != c.want {
				t.Errorf("Line(%v, %d) = %d; want %d", c.l, c.i, got, c.want)
			}
		}
	}
}

// P16.2, many lists and places.
func TestLineMany(t *testing.T) {
	c := chance(17)
	for i := range 20000 {
		var l []api.Line
		for range i % 7 {
			x := api.Line{At: c.next(9) - 2, Line: c.next(5) - 1}
			if c.next(8) == 0 {
				x.At = numbers()[c.next(len(numbers()))]
			}
			l = append(l, x)
		}
		if i%3 == 0 {
			slices.SortFunc(l, func(a, b api.Line) int { return max(-1, min(1, a.At/2-b.At/2)) })
		}
		for _, place := range append(numbers(), 4, 5, 6) {
			want := 0
			for _, x := range l {
				if x.At > place {
					break
				}
				want = x.Line
			}
			if got := fun.Line(api.Func{Lines: l}, place); got != want {
				t.Fatalf("Line(%v, %d) = %d; want %d", l, place, got, want)
			}
		}
	}
}

// written is f's bytes, as the document has them.
func written(f api.Func) string {
	flag := func(yes bool) byte {
		if yes {
			return 1
		}
		return 0
	}
	b := []byte{byte(f.Class), byte(len(f.Kinds))}
	for _, kind := range f.Kinds {
		b = append(b, byte(kind))
	}
	b = append(b, byte(f.Pad>>8), byte(f.Pad), flag(f.Nosplit), byte(f.From), byte(f.To), byte(len(f.Lines)))
	for _, x := range f.Lines {
		b = append(b, byte(x.At), byte(x.Line>>8), byte(x.Line))
	}
	b = append(b, byte(len(f.Code)))
	for _, x := range f.Code {
		n := uint64(x.N)
		b = append(b, byte(x.Op), byte(x.A), byte(x.B), byte(x.C), byte(n>>24), byte(n>>16), byte(n>>8), byte(n))
	}
	b = append(b, byte(len(f.Relocs)))
	for _, x := range f.Relocs {
		b = append(b, byte(x.At), byte(x.Sym), flag(x.Wide))
	}
	return string(b)
}

// P16.3, bytes written out.
func TestPut(t *testing.T) {
	for _, c := range []struct {
		b    string
		f    api.Func
		want string
	}{
		{"", api.Func{}, "\x00\x00" + "\x00\x00\x00\x00\x00" + "\x00\x00\x00"},
		{"abc", api.Func{Kinds: []int{}, Lines: []api.Line{}, Code: []api.Instr{}, Relocs: []api.Reloc{}}, "abc\x00\x00" + "\x00\x00\x00\x00\x00" + "\x00\x00\x00"},
		{"\x09", good(), "\x09\x03\x03\x00\x04\x00" + "\x00\x46\x01\x01\x03" + "\x02\x00\x00\x0a\x02\x00\x09" +
			"\x05" + "\x01\x00\x00\x00\x00\x00\x00\x00" + "\x13\x01\x00\x00\x00\x00\x00\x00" + "\x0c\x02\x00\x00\x00\x00\x00\x01" + "\x0e\x00\x00\x00\x00\x00\x00\x00" + "\x18\x00\x00\x00\x00\x00\x00\x00" +
			"\x02\x01\x05\x01\x03\x1f\x00"},
		{"", api.Func{Class: 7, Kinds: []int{8}, Pad: 4096, From: 64, To: 63, Lines: []api.Line{{At: 63, Line: 65535}}, Code: []api.Instr{{Op: api.OpSet, A: 255, N: -2}}, Relocs: []api.Reloc{{At: 63, Sym: 30, Wide: true}}}, "\x07\x01\x08" + "\x10\x00\x00\x40\x3f" + "\x01\x3f\xff\xff" + "\x01\x02\xff\x00\x00\xff\xff\xff\xfe" + "\x01\x3f\x1e\x01"},
		// What has no form is put, too: the lowest bits of it.
		{"x", api.Func{Class: -1, Kinds: []int{258, math.MinInt + 3}, Pad: 65536*5 + 772, Nosplit: true, From: 261, To: math.MaxInt, Lines: []api.Line{{At: -2, Line: -3}, {At: 256, Line: 65536 + 258}}, Code: []api.Instr{{Op: 257, A: -1, B: 258, C: math.MinInt, N: 1<<32 + 9}}, Relocs: []api.Reloc{{At: -1, Sym: 1<<32 + 6}}}, "x\xff\x02\x02\x03" + "\x03\x04\x01\x05\xff" + "\x02\xfe\xff\xfd\x00\x01\x02" + "\x01\x01\xff\x02\x00\x00\x00\x00\x09" + "\x01\xff\x06\x00"},
	} {
		if got := string(fun.Put([]byte(c.b), c.f)); got != c.want {
			t.Errorf("Put(%q, %v) = %q; want %q", c.b, c.f, got, c.want)
		}
	}
	if got := fun.Put(nil, good()); string(got) != written(good()) {
		t.Errorf("behind nothing: %q", got)
	}
}

// long is a function of lists that all have so many.
func long(n int) api.Func {
	f := api.Func{Class: 2, Pad: 9, From: 1, To: 2}
	for i := range n {
		f.Kinds = append(f.Kinds, i%9)
		f.Lines = append(f.Lines, api.Line{At: i % 256, Line: i % 65536})
		f.Code = append(f.Code, api.Instr{Op: api.OpSet, A: i % 256, N: int64(i)})
		f.Relocs = append(f.Relocs, api.Reloc{At: i % 256, Sym: (n - i) % 256, Wide: i%3 == 0})
	}
	return f
}

// P16.3, more than one byte can count: its lowest bits are put, and all of the rest.
func TestPutMany(t *testing.T) {
	for _, n := range []int{16, 17, 64, 65, 255, 256, 257, 300, 65536, 70000} {
		if got := string(fun.Put([]byte("x"), long(n))); got != "x"+written(long(n)) {
			t.Errorf("of lists of %d: %d bytes", n, len(got))
		}
	}
}

// got holds what Get answers of r.
func got(t *testing.T, what string, r *octet.Reader, want api.Func, why api.Errno) {
	t.Helper()
	f, e := fun.Get(r)
	if !same(f, want) || e != why {
		t.Errorf("%s: Get = %v, %v; want %v, %v", what, f, e, want, why)
	}
}

// P16.3, functions written out, with bytes ahead and behind.
func TestGet(t *testing.T) {
	for _, c := range []struct {
		b    string
		want api.Func
	}{
		{"\x00\x00" + "\x00\x00\x00\x00\x00" + "\x00\x00\x00", api.Func{}},
		{"\x03\x03\x00\x04\x00" + "\x00\x46\x01\x01\x03" + "\x02\x00\x00\x0a\x02\x00\x09" +
			"\x05" + "\x01\x00\x00\x00\x00\x00\x00\x00" + "\x13\x01\x00\x00\x00\x00\x00\x00" + "\x0c\x02\x00\x00\x00\x00\x00\x01" + "\x0e\x00\x00\x00\x00\x00\x00\x00" + "\x18\x00\x00\x00\x00\x00\x00\x00" +
			"\x02\x01\x05\x01\x03\x1f\x00", good()},
		{"\x00\x00" + "\x00\x00\x00\x00\x00" + "\x00\x01\x18\x00\x00\x00\x00\x00\x00\x00\x00", api.Func{Code: []api.Instr{last}}},
		// What has no form is got, too; numbers are from 0 on.
		{"\xff\x02\xfe\x80" + "\xff\xfe\x00\xfd\x81" + "\x02\xfc\xff\xfb\xfa\x80\x00" + "\x02\x19\x03\x02\x01\xff\xff\xff\xfe\x1c\xff\xff\xff\x7f\xff\xff\xff" + "\x02\xf9\xf8\x01\xf7\xf6\x00",
			api.Func{Class: 255, Kinds: []int{254, 128}, Pad: 65534, From: 253, To: 129, Lines: []api.Line{{At: 252, Line: 65531}, {At: 250, Line: 32768}}, Code: []api.Instr{{Op: api.OpCheck, A: 3, B: 2, C: 1, N: -2}, {Op: api.OpDriver, A: 255, B: 255, C: 255, N: math.MaxInt32}}, Relocs: []api.Reloc{{At: 249, Sym: 248, Wide: true}, {At: 247, Sym: 246}}}},
	} {
		for _, behind := range []string{"", "\x00", "\x02", "\x00\x01\x02"} {
			r := octet.New([]byte("\x09" + c.b + behind))
			r.Num(1)
			got(t, fmt.Sprintf("%q", c.b), r, c.want, api.OK)
			if r.At() != 1+len(c.b) || r.Left() != len(behind) || r.Bad() {
				t.Errorf("behind %q: at, left, bad are %d, %d, %v", c.b, r.At(), r.Left(), r.Bad())
			}
		}
	}
	r := octet.New([]byte(written(api.Func{}) + written(good()) + written(api.Func{Class: 5})))
	got(t, "first", r, api.Func{}, api.OK)
	got(t, "second", r, good(), api.OK)
	got(t, "third", r, api.Func{Class: 5}, api.OK)
	got(t, "behind the end", r, api.Func{}, api.ErrShort)
}

// P16.3, more than functions may have are got: Check alone refuses them.
func TestGetMany(t *testing.T) {
	for _, n := range []int{16, 17, 64, 65, 127, 128, 254, 255} {
		b := written(long(n))
		got(t, fmt.Sprintf("lists of %d", n), octet.New([]byte(b)), long(n), api.OK)
		got(t, "a byte less", octet.New([]byte(b[:len(b)-1])), api.Func{}, api.ErrShort)
		got(t, "the last byte", octet.New([]byte(b[:len(b)-1]+"\x02")), api.Func{}, api.ErrForm)
	}
}

// P16.3, bytes lack, at each place.
func TestGetShort(t *testing.T) {
	empty := api.Func{Class: 1, Pad: 258}
	for _, f := range []api.Func{good(), empty, long(1), long(3), bare(code(5)...)} {
		b := []byte(written(f))
		for has := range len(b) {
			got(t, fmt.Sprintf("%d of %d bytes", has, len(b)), octet.New(b[:has]), api.Func{}, api.ErrShort)
		}
		got(t, "all bytes", octet.New(b), f, api.OK)
	}
	for _, b := range []string{"\x00\xff", "\x00\xff" + strings.Repeat("\x00", 255), "\x00\x00\x00\x00\x00\x00\x00\xff", "\x00\x00\x00\x00\x00\x00\x00\x00\xff", "\x00\x00\x00\x00\x00\x00\x00\x00\x00\xff" + strings.Repeat("\x00", 764)} {
		got(t, fmt.Sprintf("%d bytes", len(b)), octet.New([]byte(b)), api.Func{}, api.ErrShort)
	}
}

// bytesOracle reads the bytes by the words of the document, one by one.
type bytesOracle struct {
	b   []byte
	at  int
	why api.Errno
}

func (o *bytesOracle) num(w int) int {
	if o.why != api.OK {
		return 0
	}
	if o.at+w > len(o.b) {
		o.why = api.ErrShort
		return 0
	}
	n := 0
	for range w {
		n = n*256 + int(o.b[o.at])
		o.at++
	}
	return n
}

func (o *bytesOracle) yes() bool {
	n := o.num(1)
	if n > 1 {
		o.why = api.ErrForm
	}
	return n == 1
}

func (o *bytesOracle) instr() api.Instr {
	if o.why == api.OK && o.at+8 > len(o.b) {
		o.why = api.ErrShort
	}
	x := api.Instr{Op: o.num(1), A: o.num(1), B: o.num(1), C: o.num(1), N: int64(int32(o.num(4)))}
	if o.why == api.OK {
		o.why = instr.Check(x)
	}
	return x
}

// getOracle is what Get says of b, and how many bytes it took, unless there is an error.
func getOracle(b []byte) (api.Func, api.Errno, int) {
	o := &bytesOracle{b: b}
	f := api.Func{Class: o.num(1)}
	for n := o.num(1); n > 0 && o.why == api.OK; n-- {
		f.Kinds = append(f.Kinds, o.num(1))
	}
	f.Pad = o.num(2)
	f.Nosplit = o.yes()
	f.From = o.num(1)
	f.To = o.num(1)
	for n := o.num(1); n > 0 && o.why == api.OK; n-- {
		f.Lines = append(f.Lines, api.Line{At: o.num(1), Line: o.num(2)})
	}
	for n := o.num(1); n > 0 && o.why == api.OK; n-- {
		f.Code = append(f.Code, o.instr())
	}
	for n := o.num(1); n > 0 && o.why == api.OK; n-- {
		f.Relocs = append(f.Relocs, api.Reloc{At: o.num(1), Sym: o.num(1), Wide: o.yes()})
	}
	if o.why != api.OK {
		return api.Func{}, o.why, 0
	}
	return f, api.OK, o.at
}

// gotAs holds Get against what the oracle says of b.
func gotAs(t *testing.T, b []byte) api.Errno {
	t.Helper()
	r := octet.New(b)
	f, e := fun.Get(r)
	want, why, at := getOracle(b)
	if e != why || !same(f, want) || e == api.OK && r.At() != at {
		t.Errorf("%q is got as %v, %v, to %d; want %v, %v, to %d", b, f, e, r.At(), want, why, at)
	}
	return e
}

// P16.3, each byte another one, or two of them, and bytes that lack behind: the first that is wrong, from the front on.
func TestGetSpoilt(t *testing.T) {
	base := []byte(written(api.Func{Class: 3, Kinds: []int{0, 4}, Pad: 772, Nosplit: true, From: 1, To: 2, Lines: []api.Line{{Line: 770}}, Code: []api.Instr{out, last}, Relocs: []api.Reloc{{At: 0, Sym: 3, Wide: true}, {At: 1, Sym: 4}}}))
	told := map[api.Errno]int{}
	for i := range base {
		for x := range 256 {
			b := bytes.Clone(base)
			b[i] = byte(x)
			told[gotAs(t, b)]++
		}
		for j := range i {
			for _, x := range []byte{0, 1, 2, 25, 29, 255} {
				b := bytes.Clone(base)
				b[i], b[j] = x, 2
				for has := j; has <= len(b); has++ {
					told[gotAs(t, b[:has])]++
				}
			}
		}
	}
	for _, e := range []api.Errno{api.OK, api.ErrShort, api.ErrForm, api.ErrKind, api.ErrArg} {
		if told[e] < 100 {
			t.Errorf("%v was told %d times", e, told[e])
		}
	}
}

// P16.3, what tells yes or no, of each value, wherever it stands.
func TestGetForm(t *testing.T) {
	f := good()
	whole := written(f)
	places := []int{7, len(whole) - 4, len(whole) - 1}
	for last := 2; last < 256; last++ {
		for _, at := range places {
			bad := []byte(whole)
			bad[at] = byte(last)
			got(t, fmt.Sprintf("%d at %d", last, at), octet.New(bad), api.Func{}, api.ErrForm)
			got(t, "and bytes lack behind it", octet.New(bad[:at+1]), api.Func{}, api.ErrForm)
			got(t, "and bytes lack, where it would be", octet.New(bad[:at]), api.Func{}, api.ErrShort)
		}
	}
	for mask := range 8 {
		b := []byte(whole)
		for i, at := range places {
			b[at] = byte(mask >> i & 1)
		}
		want := good()
		want.Nosplit, want.Relocs[0].Wide, want.Relocs[1].Wide = mask&1 > 0, mask&2 > 0, mask&4 > 0
		got(t, fmt.Sprintf("yes and no of %d", mask), octet.New(b), want, api.OK)
	}
}

// P16.3, instructions that may not be: ahead of what is wrong behind them, when all of them is there.
func TestGetInstr(t *testing.T) {
	of := func(l ...string) string {
		return "\x00\x00\x00\x00\x00\x00\x00\x00" + string([]byte{byte(len(l))}) + strings.Join(l, "")
	}
	const (
		ret     = "\x18\x00\x00\x00\x00\x00\x00\x00"
		noOp    = "\x1d\x00\x00\x00\x00\x00\x00\x00"
		zeroOp  = "\x00\x00\x00\x00\x00\x00\x00\x00"
		noArg   = "\x01\x01\x00\x00\x00\x00\x00\x00"
		noArgN  = "\x18\x00\x00\x00\x00\x00\x00\x01"
		ofImage = "\x19\x01\x00\x00\x00\x00\x00\x01"
	)
	for _, c := range []struct {
		b    string
		want api.Errno
	}{
		{of(noOp) + "\x00", api.ErrKind}, {of(zeroOp) + "\x00", api.ErrKind}, {of(noArg) + "\x00", api.ErrArg}, {of(noArgN) + "\x00", api.ErrArg}, {of(ofImage) + "\x00", api.OK},
		{of(ret, noOp, noArg) + "\x00", api.ErrKind}, {of(ret, noArg, noOp) + "\x00", api.ErrArg}, {of(ofImage, noArg) + "\x00", api.ErrArg},
		// Bytes lack behind it, or of it.
		{of(noOp), api.ErrKind}, {of(noArg), api.ErrArg}, {of(noOp)[:16], api.ErrShort}, {of(noArg)[:16], api.ErrShort}, {of(noOp)[:10], api.ErrShort},
		{of(noOp, ret)[:20], api.ErrKind}, {of(noArg, noOp)[:20], api.ErrArg}, {of(ret, noOp)[:20], api.ErrShort}, {of(ret, noOp)[:17], api.ErrShort}, {of(ret, noOp), api.ErrKind},
		// A byte that tells yes or no, ahead and behind.
		{of(noArg) + "\x01\x00\x00\x02", api.ErrArg}, {of(ret) + "\x01\x00\x00\x02", api.ErrForm}, {"\x00\x00\x00\x00\x02" + of(noArg)[5:] + "\x00", api.ErrForm}, {"\x00\x00\x00\x00\x02" + of(noArg)[5:12], api.ErrForm},
	} {
		r := octet.New([]byte(c.b))
		f, e := fun.Get(r)
		if e != c.want || e != api.OK && !same(f, api.Func{}) {
			t.Errorf("%q is got as %v, %v; want %v", c.b, f, e, c.want)
		}
		gotAs(t, []byte(c.b))
	}
}

// P16.3 and P7, readers that are nobody's, bad, or at their end.
func TestGetNobody(t *testing.T) {
	for _, r := range []*octet.Reader{nil, {}, new(octet.Reader), octet.New(nil), octet.New([]byte{}), octet.New([]byte{0}), octet.New(make([]byte, 9))} {
		for range 2 {
			got(t, "nobody's, or at its end", r, api.Func{}, api.ErrShort)
			if !r.Bad() {
				t.Error("a reader that lacks bytes is not bad")
			}
		}
	}
	for _, spoil := range []func(r *octet.Reader){func(r *octet.Reader) { r.Num(0) }, func(r *octet.Reader) { r.Signed(9) }, func(r *octet.Reader) { r.Text(-1) }} {
		r := octet.New(make([]byte, 20))
		spoil(r)
		got(t, "bad", r, api.Func{}, api.ErrShort)
		if r.At() != 0 || r.Left() != 20 {
			t.Error("a bad reader reads")
		}
	}
}

// P16.4: what has a form is got as it was put; and what is got is put as it was.
func TestThereAndBack(t *testing.T) {
	c := chance(18)
	for i := range 5000 {
		f := c.some()
		wants(t, f, api.OK)
		ahead := strings.Repeat("\x07", i%3)
		b := fun.Put([]byte(ahead), f)
		if string(b) != ahead+written(f) {
			t.Fatalf("%v is put as %q", f, b)
		}
		r := octet.New(b)
		for range len(ahead) {
			r.Num(1)
		}
		back, e := fun.Get(r)
		if !same(back, f) || e != api.OK || r.Left() != 0 {
			t.Fatalf("%v is got as %v, %v; %d bytes are left", f, back, e, r.Left())
		}
		if again := fun.Put([]byte(ahead), back); !bytes.Equal(again, b) {
			t.Fatalf("%q is put as %q", b, again)
		}
	}
}

// The rules: what is handed in is not changed, and no answer shares memory with it, or with another.
func TestShares(t *testing.T) {
	f := good()
	for _, room := range []int{0, 1, 2, 20, 400} {
		for _, has := range []int{0, 1, 3} {
			all := bytes.Repeat([]byte{7}, has+room)
			b := all[:has]
			first, second := fun.Put(b, f), fun.Put(b, f)
			want := string(second)
			first = first[:cap(first)]
			for i := range first {
				first[i] = 1
			}
			if string(second) != want || string(fun.Put(b, f)) != want {
				t.Errorf("%d, room %d: an answer shares memory with another", has, room)
			}
			if strings.Trim(string(all), "\x07") != "" {
				t.Errorf("%d, room %d: what was handed in is %q", has, room, all)
			}
			for i := range all {
				all[i] = 8
			}
			if string(second) != want {
				t.Errorf("%d, room %d: what was handed in is kept", has, room)
			}
		}
	}
	fun.Check(f)
	fun.Line(f, 2)
	if !same(f, good()) {
		t.Errorf("what is handed in is changed to %v", f)
	}
	r := octet.New(fun.Put(fun.Put(nil, f), f))
	first, _ := fun.Get(r)
	clear(first.Kinds[:cap(first.Kinds)])
	clear(first.Lines[:cap(first.Lines)])
	clear(first.Code[:cap(first.Code)])
	clear(first.Relocs[:cap(first.Relocs)])
	got(t, "the second function", r, f, api.OK)
}

// P7: each call ends at all arguments, and answers alike when it is asked again.
func TestEnds(t *testing.T) {
	c := chance(19)
	pick := func() int { return numbers()[c.next(len(numbers()))] }
	for i := range 5000 {
		f := api.Func{Class: pick(), Pad: pick(), From: pick(), To: pick()}
		if i%2 == 0 {
			f = c.some()
		}
		for range c.next(4) {
			f.Kinds = append(f.Kinds, pick())
			f.Lines = append(f.Lines, api.Line{At: pick(), Line: pick()})
			f.Relocs = append(f.Relocs, api.Reloc{At: pick(), Sym: pick(), Wide: c.next(2) == 0})
			f.Code = append(f.Code, api.Instr{Op: c.next(31) - 1, A: pick(), B: pick(), C: pick(), N: int64(pick())})
		}
		kept := copied(f)
		if e := fun.Check(f); e != checkOracle(f) || e != fun.Check(f) {
			t.Errorf("Check(%v) = %v", f, e)
		}
		if n := fun.Frame(f); n != len(f.Kinds)+min(max(f.Pad, 0), most) {
			t.Errorf("Frame(%v) = %d", f, n)
		}
		for _, n := range numbers() {
			if fun.Line(f, n) != fun.Line(f, n) {
				t.Errorf("Line(%v, %d)", f, n)
			}
		}
		if b := fun.Put(nil, f); string(b) != written(f) {
			t.Errorf("%v is put as %q", f, b)
		} else {
			gotAs(t, b)
		}
		if !same(f, kept) {
			t.Errorf("%v is changed to %v", kept, f)
		}
	}
}

// P7: bytes of any kind are read, or refused, and with an error there is nothing.
func TestGetAny(t *testing.T) {
	c := chance(20)
	told := map[api.Errno]int{}
	for range 40000 {
		b := make([]byte, c.next(60))
		for i := range b {
			b[i] = byte(c.next(3))
			if c.next(20) == 0 {
				b[i] = byte(c.next(256))
			}
		}
		told[gotAs(t, b)]++
	}
	for _, e := range []api.Errno{api.OK, api.ErrShort, api.ErrForm, api.ErrKind, api.ErrArg} {
		if told[e] < 100 {
			t.Errorf("%v was told %d times", e, told[e])
		}
	}
}

// P7: lists as long as may be are gone through in time.
func TestLong(t *testing.T) {
	const n = 1 << 19
	f := long(n)
	wants(t, f, api.ErrLong)
	if got := fun.Put(nil, f); len(got) != 10+15*n {
		t.Errorf("long lists are put as %d bytes", len(got))
	}
	if got := fun.Frame(f); got != n+9 {
		t.Errorf("a frame of %d words", got)
	}
	if got := fun.Line(f, 255); got != (n-1)%65536 {
		t.Errorf("line %d", got)
	}
	f.Kinds = nil
	wants(t, f, api.ErrArg)
	f.Class = 0
	wants(t, f, api.ErrLong)
	f.Code = code(64)
	wants(t, f, api.ErrLong)
	f.Lines = nil
	wants(t, f, api.ErrReloc)
}
