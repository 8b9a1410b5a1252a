package file

import (
	"slices"

	"sheerleg/api"
	"sheerleg/data"
	"sheerleg/fun"
	"sheerleg/octet"
)

const (
	mark     = 83<<24 | 72<<16 | 76<<8 | 49 // SHL1
	markWide = 4
	short    = 1   // bytes of most numbers
	mostText = 255 // as many as a text's first byte tells: which names may be, objects' check says
)

// ofObject is o's bytes, without their sum.
func ofObject(o api.Object) []byte {
	return slices.Concat(octet.Put(nil, mark, markWide),
		list(o.Symbols, symbol), list(o.Funcs, function), list(o.Datas, words))
}

// list is how many there are, and behind it the bytes of each.
func list[T any](l []T, bytesOf func(x T) []byte) []byte {
	b := number(len(l))
	for _, x := range l {
		b = append(b, bytesOf(x)...)
	}
	return b
}

func number(n int) []byte {
	return octet.Put(nil, int64(n), short)
}

func symbol(s api.Symbol) []byte {
	return slices.Concat(octet.Text(nil, s.Name), flag(s.Local), number(s.Sort), number(s.Kind), number(s.Def))
}

func flag(yes bool) []byte {
	if yes {
		return number(1)
	}
	return number(0)
}

func function(f api.Func) []byte {
	return fun.Put(nil, f)
}

func words(d api.Data) []byte {
	return data.Put(nil, d)
}

// taker takes what comes next.
type taker[T any] func(r *octet.Reader) (T, api.Errno)

// part reads what comes next, and keeps it, or looks whether it is right.
type part func(r *octet.Reader) api.Errno

// read reads parts one behind the other, up to the first that is wrong.
func read(r *octet.Reader, parts ...part) api.Errno {
	for _, p := range parts {
		if e := p(r); e != api.OK {
			return e
		}
	}
	return api.OK
}

// kept is the part that is taken so, and kept at to.
func kept[T any](to *T, take taker[T]) part {
	return func(r *octet.Reader) api.Errno {
		x, e := take(r)
		*to = x
		return e
	}
}

// several takes as many as the next byte says.
func several[T any](take taker[T]) taker[[]T] {
	return func(r *octet.Reader) ([]T, api.Errno) {
		n, e := takeNumber(r)
		if e != api.OK {
			return nil, e
		}
		var l []T
		for range n {
			x, e := take(r)
			if e != api.OK {
				return nil, e
			}
			l = append(l, x)
		}
		return l, api.OK
	}
}

func takeObject(r *octet.Reader) (api.Object, api.Errno) {
	var o api.Object
	e := read(r, readMark,
		kept(&o.Symbols, several(takeSymbol)),
		kept(&o.Funcs, several(fun.Get)),
		kept(&o.Datas, several(data.Get)),
		readEnd)
	if e != api.OK {
		return api.Object{}, e
	}
	return o, api.OK
}

func takeSymbol(r *octet.Reader) (api.Symbol, api.Errno) {
	var s api.Symbol
	e := read(r,
		kept(&s.Name, takeText),
		kept(&s.Local, takeFlag),
		kept(&s.Sort, takeNumber),
		kept(&s.Kind, takeNumber),
		kept(&s.Def, takeSigned))
	if e != api.OK {
		return api.Symbol{}, e
	}
	return s, api.OK
}

func readMark(r *octet.Reader) api.Errno {
	n, e := whole(r, r.Num(markWide))
	if e == api.OK && n != mark {
		return api.ErrForm
	}
	return e
}

func readEnd(r *octet.Reader) api.Errno {
	if r.Left() > 0 {
		return api.ErrLong
	}
	return api.OK
}

// whole is x, that was just read, if all its bytes were there; if not, x is zero.
func whole[T any](r *octet.Reader, x T) (T, api.Errno) {
	if r.Bad() {
		return x, api.ErrShort
	}
	return x, api.OK
}

func takeText(r *octet.Reader) (string, api.Errno) {
	return whole(r, r.Text(mostText))
}

func takeNumber(r *octet.Reader) (int, api.Errno) {
	return whole(r, int(r.Num(short)))
}

func takeSigned(r *octet.Reader) (int, api.Errno) {
	return whole(r, int(r.Signed(short)))
}

func takeFlag(r *octet.Reader) (bool, api.Errno) {
	n, e := takeNumber(r)
	if n > 1 {
		return false, api.ErrForm
	}
	return n == 1, e
}
