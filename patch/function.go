package patch

import (
	"sheerleg/api"
	"sheerleg/fun"
	"sheerleg/op"
	"sheerleg/place"
	"sheerleg/prologue"
	"sheerleg/sig"
)

// What op.Need tells, and how many things there are that it may tell.
const (
	needNothing   = 0
	needCalled    = 1
	needFunc      = 2
	needNumbers   = 3
	needFunctions = 4
	needDeferred  = 5
	needs         = 6
)

// frames is how many instructions make a function's frame.
const frames = 1

// answered is B of a return of a function that answers.
const answered = 1

// laid is a program with a plan, where its functions start in the image, and what N becomes of instructions there, by their need.
type laid struct {
	p       api.Program
	plan    api.Plan
	starts  []int
	numbers [needs]func(s site) int64
}

// site is an instruction, the number of what it refers to, and where its function's own code begins in the image.
type site struct {
	x         api.Instr
	ref, body int
}

func lay(p api.Program, plan api.Plan) laid {
	starts := place.Starts(p, plan)
	return laid{p: p, plan: plan, starts: starts, numbers: numbers(starts, place.Addrs(p))}
}

// numbers tell what N becomes, where functions start there, and data have these addresses.
func numbers(starts, addrs []int) [needs]func(s site) int64 {
	start, addr := referred(starts), referred(addrs)
	return [needs]func(s site) int64{
		needNothing:   site.goal,
		needCalled:    start,
		needFunc:      start,
		needNumbers:   addr,
		needFunctions: addr,
		needDeferred:  start,
	}
}

// goal is N of what refers to nothing: the place in the image to which control goes, if it is one.
func (s site) goal() int64 {
	switch s.x.Op {
	case api.OpJump, api.OpZero:
		return s.x.N + int64(s.body)
	}
	return s.x.N
}

// referred tells where that is to which an instruction refers; if there is no such thing, N as it was.
func referred(places []int) func(s site) int64 {
	return func(s site) int64 {
		if !isPlace(s.ref, len(places)) {
			return s.x.N
		}
		return int64(places[s.ref])
	}
}

// function is the instructions in the image of a function that is kept.
func (l laid) function(at int) []api.Instr {
	f := l.p.Funs[at]
	code := l.head(at)
	body := l.starts[at] + len(code)
	for i, x := range f.F.Code {
		code = append(code, l.instr(f.F, site{x, refAt(f.Refs, i), body}))
	}
	return code
}

// head is what stands ahead of a function's own code: its check, if it has one, and what makes its frame.
func (l laid) head(at int) []api.Instr {
	f := l.p.Funs[at].F
	frame := int64(fun.Frame(f))
	enter := api.Instr{Op: api.OpEnter, A: len(f.Kinds), B: sig.Params(f.Class), N: frame}
	if prologue.Size(l.p, l.plan, at) == frames+len(f.Code) {
		return []api.Instr{enter}
	}
	return []api.Instr{{Op: api.OpCheck, A: l.plan.Checks[at], N: frame}, enter}
}

// instr is what an instruction of f is in the image.
func (l laid) instr(f api.Func, s site) api.Instr {
	x := s.x
	need := op.Need(x.Op)
	x.N = l.numbers[need](s)
	switch need {
	case needCalled, needDeferred:
		x.C = l.class(s)
	}
	if x.Op == api.OpReturn && sig.Answers(f.Class) {
		x.B = answered
	}
	return x
}

// class is that of the function to which s refers; if there is no such one, C as it was.
func (l laid) class(s site) int {
	if !isPlace(s.ref, len(l.p.Funs)) {
		return s.x.C
	}
	return l.p.Funs[s.ref].F.Class
}

// refAt is the number at i; if there is none, one that refers to nothing.
func refAt(refs []int, i int) int {
	if !isPlace(i, len(refs)) {
		return nobody
	}
	return refs[i]
}
