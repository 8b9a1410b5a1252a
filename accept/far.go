package accept

import (
	"slices"

	"sheerleg/api"
	"sheerleg/num"
	"sheerleg/op"
	"sheerleg/place"
	"sheerleg/prologue"
)

// How many bits an address has.
const (
	shortBits = 8
	wideBits  = 16
)

// What op.Need tells where data are needed; 0 is nothing, and all others are functions.
const (
	needNothing   = 0
	needNumbers   = 3
	needFunctions = 4
)

// farFunction tells the first function that has a far reference.
func farFunction(p api.Program) api.Reject {
	starts, addrs := fullStarts(p), place.Addrs(p)
	for _, f := range p.Funs {
		code := f.F.Code
		isFarHere := func(x api.Reloc) bool {
			return isPlace(x.At, len(code)) && isFar(x, f.Refs, needed(code[x.At].Op, starts, addrs))
		}
		if slices.ContainsFunc(f.F.Relocs, isFarHere) {
			return api.Reject{Why: api.ErrFar, File: f.File, Item: f.Item}
		}
	}
	return api.Reject{}
}

// farData tells the first data that have a far reference.
func farData(p api.Program) api.Reject {
	starts := fullStarts(p)
	for _, d := range p.Dats {
		isFarHere := func(x api.Reloc) bool { return isFar(x, d.Refs, starts) }
		if slices.ContainsFunc(d.D.Relocs, isFarHere) {
			return api.Reject{Why: api.ErrFar, File: d.File, Item: d.Item}
		}
	}
	return api.Reject{}
}

// fullStarts is of each function where it starts if all are kept, with all checks: in no other image does it start later.
func fullStarts(p api.Program) []int {
	return place.Starts(p, prologue.Full(p))
}

// needed is the addresses of those to which the operation may refer.
func needed(operation int, starts, addrs []int) []int {
	switch op.Need(operation) {
	case needNothing:
		return nil
	case needNumbers, needFunctions:
		return addrs
	}
	return starts
}

// isFar tells whether x refers, by its place's number in refs, to one of the addresses that does not fit. In a program of nobody's it may have no number, or one of nothing: then it has no address.
func isFar(x api.Reloc, refs, addresses []int) bool {
	if !isPlace(x.At, len(refs)) || !isPlace(refs[x.At], len(addresses)) {
		return false
	}
	return !num.Fits(int64(addresses[refs[x.At]]), bits(x))
}

func bits(x api.Reloc) int {
	if x.Wide {
		return wideBits
	}
	return shortBits
}

func isPlace(at, places int) bool {
	return 0 <= at && at < places
}
