package verify

import (
	"sheerleg/api"
	"sheerleg/instr"
	"sheerleg/op"
	"sheerleg/sig"
)

// What op.Need tells where no function is needed.
const (
	needNothing   = 0
	needNumbers   = 3
	needFunctions = 4
)

// checker checks an instruction of a function with slots of these kinds, and of a class of its own.
type checker struct {
	kinds  []int
	own    int
	x      api.Instr
	symbol api.Symbol // to which x refers; a zero one, if x needs none
}

// checkSymbol tells whether the symbol is of what x needs.
func (c checker) checkSymbol() api.Errno {
	if !isOf(c.symbol, op.Need(c.x.Op)) {
		return api.ErrKind
	}
	return api.OK
}

func isOf(s api.Symbol, need int) bool {
	switch need {
	case needNothing:
		return true
	case needNumbers:
		return s.Sort == api.SymData && s.Kind == api.Number
	case needFunctions:
		_, ok := sig.Class(s.Kind)
		return s.Sort == api.SymData && ok
	}
	return s.Sort == api.SymFunc
}

// checkClass tells whether functions of the class may be called as x does.
func (c checker) checkClass() api.Errno {
	if c.x.Op == api.OpVia && !sig.Is(c.class()) || c.x.Op == api.OpDefer && !sig.Later(c.class()) {
		return api.ErrClass
	}
	return api.OK
}

// checkOperands tells the first error of the operands, by their letters.
func (c checker) checkOperands() api.Errno {
	for i, letter := range op.Shape(c.x.Op) {
		if e := c.checkOperand(letter, int(instr.Operand(c.x, i))); e != api.OK {
			return e
		}
	}
	return api.OK
}

// rule is what an operand with a letter must be.
type rule struct {
	letter rune
	check  func(c checker, operand int) api.Errno
}

// rules are those of the letters that have one: a place in the code is the flow's, and a class was checked ahead of all operands, as these hang on it.
func rules() []rule {
	return []rule{
		{'w', checker.checkNumber},
		{'r', checker.checkNumber},
		{'g', checker.checkFunction},
		{'f', checker.checkFunction},
		{'c', checker.checkCalled},
		{'d', checker.checkDeferred},
		{'v', checker.checkAnswered},
	}
}

func (c checker) checkOperand(letter rune, operand int) api.Errno {
	for _, r := range rules() {
		if r.letter == letter {
			return r.check(c, operand)
		}
	}
	return api.OK
}

func (c checker) checkNumber(at int) api.Errno {
	return c.checkSlot(at, api.Number)
}

func (c checker) checkFunction(at int) api.Errno {
	return c.checkSlot(at, 1+c.class())
}

// checkCalled is of the slots from at on, in which a call finds its parameters, and leaves what is answered.
func (c checker) checkCalled(at int) api.Errno {
	slots := sig.Params(c.class())
	if slots == 0 && sig.Answers(c.class()) {
		slots = 1
	}
	if slots == 0 {
		return checkUnused(at)
	}
	// No slot behind one that is not there is looked at, so at may be the greatest number.
	for i := range slots {
		if e := c.checkNumber(at + i); e != api.OK {
			return e
		}
	}
	return api.OK
}

func (c checker) checkDeferred(at int) api.Errno {
	if sig.Params(c.class()) == 0 {
		return checkUnused(at)
	}
	return c.checkNumber(at)
}

func (c checker) checkAnswered(at int) api.Errno {
	if !sig.Answers(c.own) {
		return checkUnused(at)
	}
	return c.checkNumber(at)
}

func (c checker) checkSlot(at, kind int) api.Errno {
	if !isPlace(at, len(c.kinds)) {
		return api.ErrRange
	}
	if c.kinds[at] != kind {
		return api.ErrKind
	}
	return api.OK
}

func checkUnused(operand int) api.Errno {
	if operand != 0 {
		return api.ErrArg
	}
	return api.OK
}

// class is that of the functions of which x is, whether there is such a class or not.
func (c checker) class() int {
	switch c.x.Op {
	case api.OpVia:
		return c.x.C
	case api.OpPick:
		class, _ := sig.Class(c.symbol.Kind)
		return class
	}
	return c.symbol.Kind
}
