package fun

import (
	"slices"

	"sheerleg/api"
	"sheerleg/instr"
	"sheerleg/octet"
)

const (
	short = 1 // bytes of most numbers
	long  = 2 // bytes of a pad, and of a line
)

// Put is b, and behind it f's bytes, whether f has a form or not.
func Put(b []byte, f api.Func) []byte {
	return slices.Concat(b,
		number(f.Class), list(f.Kinds, number),
		longer(f.Pad), flag(f.Nosplit), number(f.From), number(f.To),
		list(f.Lines, ofLine), list(f.Code, ofInstr), list(f.Relocs, ofReference))
}

func number(n int) []byte {
	return octet.Put(nil, int64(n), short)
}

func longer(n int) []byte {
	return octet.Put(nil, int64(n), long)
}

func flag(yes bool) []byte {
	if yes {
		return number(1)
	}
	return number(0)
}

// list is how many there are, and behind it the bytes of each.
func list[T any](l []T, bytesOf func(x T) []byte) []byte {
	b := number(len(l))
	for _, x := range l {
		b = append(b, bytesOf(x)...)
	}
	return b
}

func ofLine(x api.Line) []byte {
	return slices.Concat(number(x.At), longer(x.Line))
}

func ofInstr(x api.Instr) []byte {
	return instr.Put(nil, x)
}

func ofReference(x api.Reloc) []byte {
	return slices.Concat(number(x.At), number(x.Sym), flag(x.Wide))
}

// Get takes a function, whether it has a form or not.
func Get(r *octet.Reader) (api.Func, api.Errno) {
	own := &reader{Reader: r}
	f := own.function()
	if own.why != api.OK {
		return api.Func{}, own.why
	}
	return f, api.OK
}

// reader reads functions. Behind what is wrong it reads on in vain: the first error alone is told.
type reader struct {
	*octet.Reader
	why api.Errno
}

// tell keeps e, unless something ahead was wrong.
func (r *reader) tell(e api.Errno) {
	if r.why == api.OK {
		r.why = e
	}
}

func (r *reader) function() api.Func {
	var f api.Func
	f.Class, f.Kinds = r.number(), several(r, r.number)
	f.Pad, f.Nosplit = r.wide(long), r.flag()
	f.From, f.To = r.number(), r.number()
	f.Lines = several(r, r.line)
	f.Code = several(r, r.instr)
	f.Relocs = several(r, r.reference)
	return f
}

// several are as many as the next byte says.
func several[T any](r *reader, take func() T) []T {
	var l []T
	for range r.number() {
		l = append(l, take())
	}
	return l
}

func (r *reader) number() int {
	return r.wide(short)
}

// wide takes a number of w bytes.
func (r *reader) wide(w int) int {
	n := r.Num(w)
	if r.Bad() {
		r.tell(api.ErrShort)
	}
	return int(n)
}

func (r *reader) flag() bool {
	n := r.number()
	if n > 1 {
		r.tell(api.ErrForm)
	}
	return n == 1
}

func (r *reader) line() api.Line {
	return api.Line{At: r.number(), Line: r.wide(long)}
}

func (r *reader) instr() api.Instr {
	x, e := instr.Get(r.Reader)
	r.tell(e)
	return x
}

func (r *reader) reference() api.Reloc {
	return api.Reloc{At: r.number(), Sym: r.number(), Wide: r.flag()}
}
