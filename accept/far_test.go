package accept_test

import (
	"slices"
	"testing"

	"sheerleg/accept"
	"sheerleg/api"
)

// does is an instruction, the number to which it refers, and by addresses of how many bits; 0: it has no reference.
type does struct {
	op, to, bits int
}

// fun is a function with a check, of such instructions, and so many more, ahead of them, that do nothing.
func fun(instructions int, l ...does) api.Fun {
	f := api.Fun{F: api.Func{Code: slices.Repeat([]api.Instr{{Op: api.OpNop}}, instructions)}, Refs: slices.Repeat([]int{-1}, instructions)}
	for _, x := range l {
		if x.bits != 0 {
			f.F.Relocs = append(f.F.Relocs, api.Reloc{At: len(f.F.Code), Wide: x.bits == 16})
		}
		f.F.Code = append(f.F.Code, api.Instr{Op: x.op})
		f.Refs = append(f.Refs, x.to)
	}
	return f
}

// until is a function that stands from place 2 to ahead of the place end, which is at least 4.
func until(end int) api.Fun {
	return fun(end - 4)
}

// dat is data of so many words, and, behind them, such as refer to functions; each has an operation that turns nothing.
func dat(words int, l ...does) api.Dat {
	f := fun(words, l...)
	return api.Dat{D: api.Data{Words: make([]int64, len(f.Refs)), Relocs: f.F.Relocs}, Refs: f.Refs}
}

// program has these functions and data, no two of which are of one file, or of one item.
func program(funs []api.Fun, dats ...api.Dat) api.Program {
	for at := range funs {
		funs[at].File, funs[at].Item = 100-at, 200+2*at
	}
	for at := range dats {
		dats[at].File, dats[at].Item = 50-at, 300+2*at
	}
	return api.Program{Funs: funs, Dats: dats}
}

// atFun, atDat are why p is rejected at one of its functions, or data.
func atFun(p api.Program, number int) api.Reject {
	return api.Reject{Why: api.ErrFar, File: p.Funs[number].File, Item: p.Funs[number].Item}
}

func atDat(p api.Program, number int) api.Reject {
	return api.Reject{Why: api.ErrFar, File: p.Dats[number].File, Item: p.Dats[number].Item}
}

// isFar holds Far to what it answers.
func isFar(t *testing.T, p api.Program, want api.Reject) {
	t.Helper()
	if r := accept.Far(p); r != want {
		t.Errorf("Far(%s) = %+v; want %+v", sketch(p), r, want)
	}
}

// either is a reject, if something holds, or none.
func either(holds bool, r api.Reject) api.Reject {
	if holds {
		return r
	}
	return api.Reject{}
}

// toFunctions, toData are the operations that refer to these.
func toFunctions() []int { return []int{api.OpCall, api.OpFunc, api.OpDefer} }
func toData() []int      { return []int{api.OpLoad, api.OpStore, api.OpPick} }

// edges are addresses about which references begin to be far.
func edges() []int {
	return []int{5, 6, 127, 128, 254, 255, 256, 257, 511, 512, 32767, 32768, 65534, 65535, 65536, 65537, 65536 + 255, 1 << 17}
}

// P30.1, Far: functions that start just where it fits in 8 bits, and in 16, and one more; referred to from behind, from ahead, and by themselves, by instructions and by words.
func TestFarFunctions(t *testing.T) {
	for _, start := range edges() {
		for _, bits := range []int{8, 16} {
			is := start >= 1<<bits
			for _, op := range toFunctions() {
				p := program([]api.Fun{until(start), fun(3), fun(2, does{op, 1, bits})})
				isFar(t, p, either(is, atFun(p, 2)))
				p = program([]api.Fun{until(start), fun(0, does{op, 1, bits})})
				isFar(t, p, either(is, atFun(p, 1)))
				p = program([]api.Fun{fun(start-5, does{op, 1, bits}), fun(3)})
				isFar(t, p, either(is, atFun(p, 0)))
			}
			p := program([]api.Fun{until(start), fun(3)}, dat(2, does{0, 1, bits}))
			isFar(t, p, either(is, atDat(p, 0)))
		}
	}
}

// P30.1, Far: data whose address just fits, and one more; where they end turns nothing.
func TestFarData(t *testing.T) {
	for _, addr := range edges() {
		for _, bits := range []int{8, 16} {
			for _, op := range toData() {
				p := program([]api.Fun{fun(3), fun(2, does{op, 1, bits})}, dat(addr-1), dat(9))
				isFar(t, p, either(addr >= 1<<bits, atFun(p, 1)))
				p = program([]api.Fun{fun(3), fun(2, does{op, 2, bits})}, dat(addr-2), dat(0), dat(999), dat(0))
				isFar(t, p, either(addr >= 1<<bits, atFun(p, 1)))
			}
		}
	}
}

// P30.1, Far: functions start where they do in the full plan: all are kept, and have a check that are not Nosplit, be their frames small, or great, be they called, or not.
func TestFarFullPlan(t *testing.T) {
	for many := 1; many < 9; many++ {
		for bits := range 1 << many {
			start := 2
			var l []api.Fun
			for i := range many {
				f := fun(i)
				f.F.Nosplit, f.F.Pad = bits>>i&1 == 1, i*i*i
				start += i + 1
				if !f.F.Nosplit {
					start++
				}
				l = append(l, f)
			}
			// One that ends ahead of the place end, and what starts there.
			for _, end := range []int{255, 256} {
				filler := fun(end - start - 2)
				p := program(append(slices.Clone(l), filler, fun(0), fun(0, does{api.OpCall, many + 1, 8})))
				for _, entry := range []int{0, many, many + 2, -1} {
					p.Entry = entry
					isFar(t, p, either(end == 256, atFun(p, many+2)))
				}
				filler = fun(end - start - 1)
				filler.F.Nosplit = true
				p = program(append(slices.Clone(l), filler, fun(0), fun(0, does{api.OpCall, many + 1, 8})))
				isFar(t, p, either(end == 256, atFun(p, many+2)))
			}
		}
	}
}

// P30.1, Far: of a function its start counts, of data their address, whatever the other's number is.
func TestFarSorts(t *testing.T) {
	// The function 1 is far, and the data 1 are not; of 2 it is the other way round.
	funs := func(l ...does) []api.Fun { return []api.Fun{until(256), fun(0), fun(0, l...)} }
	near := func(l ...does) []api.Fun { return []api.Fun{fun(0), fun(0), fun(0, l...)} }
	for _, op := range toFunctions() {
		p := program(funs(does{op, 1, 8}), dat(0), dat(0))
		isFar(t, p, atFun(p, 2))
		isFar(t, program(funs(does{op, 0, 8}), dat(0), dat(0)), api.Reject{})
		isFar(t, program(near(does{op, 1, 8}), dat(255), dat(0)), api.Reject{})
	}
	for _, op := range toData() {
		p := program(near(does{op, 1, 8}), dat(255), dat(0))
		isFar(t, p, atFun(p, 2))
		isFar(t, program(near(does{op, 0, 8}), dat(255), dat(0)), api.Reject{})
		isFar(t, program(funs(does{op, 1, 8}), dat(0), dat(0)), api.Reject{})
	}
	p := program(funs(), dat(0, does{0, 1, 8}), dat(0))
	isFar(t, p, atDat(p, 0))
	isFar(t, program(near(), dat(255), dat(0, does{0, 1, 8})), api.Reject{})
}

// P30.1, Far: the first function, then the first data, whatever their files and items are.
func TestFarFirst(t *testing.T) {
	short, wide, near := does{api.OpCall, 1, 8}, does{api.OpCall, 1, 16}, does{api.OpCall, 0, 8}
	for _, x := range []struct {
		one, two, three []does // of functions
		four, five      []does // of data
		fun, dat        int
	}{
		{nil, nil, nil, nil, nil, -1, -1},
		{[]does{wide, near}, []does{near}, []does{wide}, []does{wide}, []does{near}, -1, -1},
		{[]does{short}, nil, nil, nil, nil, 1, -1},
		{nil, []does{short}, nil, nil, nil, 2, -1},
		{nil, nil, []does{short}, nil, nil, 3, -1},
		{nil, []does{short}, []does{short}, []does{short}, []does{short}, 2, -1},
		{nil, nil, []does{short}, []does{short}, nil, 3, -1},
		{nil, nil, nil, []does{short}, []does{short}, -1, 0},
		{nil, nil, nil, nil, []does{short}, -1, 1},
		{nil, nil, []does{wide}, []does{near, wide}, []does{short}, -1, 1},
		// The first, the last, and one in the midst of several.
		{[]does{wide, short, near}, nil, nil, nil, nil, 1, -1},
		{[]does{short, wide, near}, nil, nil, nil, nil, 1, -1},
		{[]does{near, near, wide, wide, short}, []does{short}, nil, nil, nil, 1, -1},
		{nil, nil, nil, []does{wide, near, short, wide}, nil, -1, 0},
		{nil, nil, nil, []does{near, wide}, []does{wide, wide, short}, -1, 1},
	} {
		p := program([]api.Fun{until(270), fun(1, x.one...), fun(2, x.two...), fun(0, x.three...)}, dat(1, x.four...), dat(0, x.five...))
		want := api.Reject{}
		if x.fun >= 0 {
			want = atFun(p, x.fun)
		} else if x.dat >= 0 {
			want = atDat(p, x.dat)
		}
		isFar(t, p, want)
	}
	for _, n := range numbers() {
		p := program([]api.Fun{until(256), fun(0, does{api.OpCall, 1, 8})}, dat(0, does{0, 1, 8}))
		p.Funs[1].File, p.Funs[1].Item = n, ^n
		isFar(t, p, api.Reject{Why: api.ErrFar, File: n, Item: ^n})
		p.Funs[1].Refs[0], p.Dats[0].File, p.Dats[0].Item = -1, n, ^n
		isFar(t, p, api.Reject{Why: api.ErrFar, File: n, Item: ^n})
	}
}

// P30.1, Far: a number in Refs that is none of a function, or data, there.
func TestFarNumbers(t *testing.T) {
	for _, n := range append(numbers(), 4, 5, 6) {
		for _, bits := range []int{8, 16} {
			// There are three functions, of which those from 1 on are far, and five data, of which those from 2 on are.
			program := func(op int) api.Program {
				return program([]api.Fun{until(1 << bits), fun(0), fun(1, does{op, n, bits})}, dat(0), dat(1<<bits-1), dat(0), dat(0), dat(0))
			}
			for _, op := range toFunctions() {
				p := program(op)
				isFar(t, p, either(n == 1 || n == 2, atFun(p, 2)))
			}
			for _, op := range toData() {
				p := program(op)
				isFar(t, p, either(n == 2 || n == 3 || n == 4, atFun(p, 2)))
			}
			p := program(api.OpReturn)
			p.Funs[2].Refs[1] = -1
			p.Dats[4] = dat(1, does{0, n, bits})
			p.Dats[4].File, p.Dats[4].Item = 7, 8
			isFar(t, p, either(n == 1 || n == 2, atDat(p, 4)))
		}
	}
}

// P30.1, Far: of an instruction that needs neither a function nor data no number is that of one.
func TestFarNeedless(t *testing.T) {
	for op := -1; op < 31; op++ {
		p := program([]api.Fun{until(256), fun(2, does{op, 1, 8})}, dat(255), dat(0))
		isFar(t, p, either(slices.Contains(slices.Concat(toFunctions(), toData()), op), atFun(p, 1)))
	}
}

// P30.1, Far: a reference at a place that has no number, or another one's, is at none; where there is no reference, nothing is far.
func TestFarPlaces(t *testing.T) {
	for _, at := range numbers() {
		// Only the instruction, and the word, at 2 have a number.
		p := program([]api.Fun{until(256), fun(2, does{api.OpCall, 1, 8})}, dat(2, does{0, 1, 8}))
		p.Funs[1].F.Relocs[0].At = at
		p.Dats[0].D.Relocs = nil
		isFar(t, p, either(at == 2, atFun(p, 1)))
		p.Funs[1].F.Relocs, p.Dats[0].D.Relocs = nil, []api.Reloc{{At: at}}
		isFar(t, p, either(at == 2, atDat(p, 0)))
	}
	for many := range 3 {
		p := program([]api.Fun{until(256), fun(2, does{api.OpCall, 1, 8})}, dat(2, does{0, 1, 8}))
		p.Funs[1].Refs = p.Funs[1].Refs[:many]
		isFar(t, p, atDat(p, 0))
		p.Dats[0].Refs = p.Dats[0].Refs[:many]
		isFar(t, p, api.Reject{})
	}
	isFar(t, program([]api.Fun{until(65536), fun(2, does{api.OpCall, 1, 0})}, dat(2, does{0, 1, 0})), api.Reject{})
	// Which symbol a reference names turns nothing: the program's numbers say to what it refers.
	for _, n := range numbers() {
		p := program([]api.Fun{until(256), fun(2, does{api.OpCall, 1, 8})})
		p.Funs[1].F.Relocs[0].Sym = n
		isFar(t, p, atFun(p, 1))
		p.Funs[1].Refs[2] = 0
		isFar(t, p, api.Reject{})
	}
}

// P30.1, Far: of nothing, and of functions and data with nothing in them.
func TestFarNothing(t *testing.T) {
	for _, p := range []api.Program{{}, {Entry: 7}, {Funs: []api.Fun{}, Dats: []api.Dat{}}, {Funs: make([]api.Fun, 300), Dats: make([]api.Dat, 300)}, {Dats: []api.Dat{dat(999), dat(0)}}} {
		isFar(t, p, api.Reject{})
	}
	bare := api.Fun{F: api.Func{Relocs: []api.Reloc{{}, {At: 1}}}, Refs: []int{0}}
	isFar(t, program([]api.Fun{until(256), bare}, dat(300), api.Dat{D: api.Data{Relocs: []api.Reloc{{}}}}), api.Reject{})
	// They take their places, though: 127 functions of nothing stand from 2 to 255, 256 data from 0 to 255.
	for many := 126; many < 129; many++ {
		p := program(append(make([]api.Fun, many), fun(0, does{api.OpCall, many, 8})))
		isFar(t, p, either(many > 126, atFun(p, many)))
	}
	for many := 254; many < 258; many++ {
		p := program([]api.Fun{fun(0, does{api.OpLoad, many, 8})}, make([]api.Dat, many+1)...)
		isFar(t, p, either(many > 255, atFun(p, 0)))
	}
}
