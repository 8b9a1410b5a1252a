package bind

import (
	"slices"

	"sheerleg/api"
	"sheerleg/data"
	"sheerleg/object"
	"sheerleg/scope"
	"sheerleg/verify"
)

// lastPlain is the last class without parameters: classes are twice these, and 1, if they answer (5).
const lastPlain = 1

// whence is where a function, or data, come from: the file, and the item's number there.
type whence struct {
	file, item int
}

// binder binds files of which nothing is wrong.
type binder struct {
	files   []api.Object
	numbers map[whence]int // those of functions among all functions, those of data among all data
}

func newBinder(l []api.Object) binder {
	b := binder{files: l, numbers: map[whence]int{}}
	funcs, datas := 0, 0
	for file, o := range l {
		for i := range o.Funcs {
			b.numbers[whence{file, itemOf(o, api.SymFunc, i)}] = funcs + i
		}
		for i := range o.Datas {
			b.numbers[whence{file, itemOf(o, api.SymData, i)}] = datas + i
		}
		funcs += len(o.Funcs)
		datas += len(o.Datas)
	}
	return b
}

// entry is the number of the global function of that name, that needs no parameters; false: there is none.
func (b binder) entry(name string) (int, bool) {
	file, sym, ok := scope.Find(b.files, name)
	if !ok {
		return 0, false
	}
	if s := b.files[file].Symbols[sym]; s.Sort != api.SymFunc || s.Kind > lastPlain {
		return 0, false
	}
	return b.number(file, sym), true
}

// program is all functions and data, with what they refer to, but without an entry.
func (b binder) program() api.Program {
	var p api.Program
	for file, o := range b.files {
		numbers := b.symbols(file)
		for i, f := range o.Funcs {
			item := itemOf(o, api.SymFunc, i)
			p.Funs = append(p.Funs, api.Fun{File: file, Item: item, Name: nameOf(o, item), F: ownFunc(f), Refs: refs(symsOf(f), numbers)})
		}
		for i, d := range o.Datas {
			item := itemOf(o, api.SymData, i)
			p.Dats = append(p.Dats, api.Dat{File: file, Item: item, Name: nameOf(o, item), D: ownData(d), Refs: refs(data.Refs(d), numbers)})
		}
	}
	return p
}

// symbols is of each symbol of the file the number of what it is bound to.
func (b binder) symbols(file int) []int {
	numbers := make([]int, len(b.files[file].Symbols))
	for sym := range numbers {
		numbers[sym] = b.number(file, sym)
	}
	return numbers
}

// number is that of what the file's sym-th symbol is bound to.
func (b binder) number(file, sym int) int {
	to, at, _ := scope.Bound(b.files, file, sym)
	o := b.files[to]
	s := o.Symbols[at]
	return b.numbers[whence{to, itemOf(o, s.Sort, s.Def)}]
}

// itemOf is the number of the item that stands at the place among those of its sort.
func itemOf(o api.Object, sort, place int) int {
	if sort == api.SymData {
		return len(o.Funcs) + place
	}
	return place
}

func nameOf(o api.Object, item int) string {
	return o.Symbols[object.Definer(o, item)].Name
}

// symsOf is of each of f's instructions the symbol to which it refers; -1: there is none.
func symsOf(f api.Func) []int {
	syms := make([]int, len(f.Code))
	for i := range syms {
		syms[i] = verify.Sym(f, i)
	}
	return syms
}

// refs is of each of the symbols its number; -1, where there is none.
func refs(syms, numbers []int) []int {
	l := make([]int, len(syms))
	for i, sym := range syms {
		l[i] = none
		if sym != none {
			l[i] = numbers[sym]
		}
	}
	return l
}

// ownFunc is f with lists of its own.
func ownFunc(f api.Func) api.Func {
	f.Kinds = slices.Clone(f.Kinds)
	f.Lines = slices.Clone(f.Lines)
	f.Code = slices.Clone(f.Code)
	f.Relocs = slices.Clone(f.Relocs)
	return f
}

// ownData is d with lists of its own.
func ownData(d api.Data) api.Data {
	d.Words = slices.Clone(d.Words)
	d.Relocs = slices.Clone(d.Relocs)
	return d
}
