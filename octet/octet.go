// Package octet is layer 2: numbers as bytes. See shared/doc/02-octet.md.
package octet

import "slices"

const (
	maxWidth = 8
	maxText  = 255
)

// Put is b, and behind it the lowest w bytes of n.
func Put(b []byte, n int64, w int) []byte {
	if !isWidth(w) {
		w = 0
	}
	var all [maxWidth]byte
	for i := maxWidth - 1; i >= 0; i-- {
		all[i] = byte(n)
		n >>= 8
	}
	return slices.Concat(b, all[maxWidth-w:])
}

// Text is b, and behind it s, cut to what one byte can count, with that byte ahead.
func Text(b []byte, s string) []byte {
	s = s[:min(len(s), maxText)]
	return slices.Concat(b, []byte{byte(len(s))}, []byte(s))
}

func isWidth(w int) bool {
	return 1 <= w && w <= maxWidth
}

// Reader reads bytes, from the front on.
type Reader struct {
	bytes []byte
	at    int
	good  bool // so that a reader that New did not make is bad
}

// New gives a reader of a copy of b.
func New(b []byte) *Reader {
	return &Reader{bytes: slices.Clone(b), good: true}
}

// Num takes a number of w bytes, from 0 on.
func (r *Reader) Num(w int) int64 {
	return number(r.number, w, func(first byte) int64 { return int64(first) })
}

// Signed takes a number of w bytes, the highest bit being a sign.
func (r *Reader) Signed(w int) int64 {
	return number(r.number, w, func(first byte) int64 { return int64(int8(first)) })
}

// Text takes a text of at most most bytes.
func (r *Reader) Text(most int) string {
	n, ok := r.ahead()
	return string(r.take(1, n, ok && n <= most))
}

// number is 0 where take has no bytes; head says what the first byte, and with it the sign, counts.
func number(take func(w int) []byte, w int, head func(first byte) int64) int64 {
	b := take(w)
	if len(b) == 0 {
		return 0
	}
	n := head(b[0])
	for _, x := range b[1:] {
		n = n<<8 | int64(x)
	}
	return n
}

func (r *Reader) number(w int) []byte {
	return r.take(0, w, isWidth(w))
}

// ahead tells how many bytes the next text says it has; nothing is taken, as the text may yet be refused.
func (r *Reader) ahead() (int, bool) {
	if r.Bad() || r.Left() == 0 {
		return 0, false
	}
	return int(r.bytes[r.at]), true
}

// take gives n bytes behind some that are skipped; where they may not be had the reader is bad from there on.
func (r *Reader) take(skipped, n int, may bool) []byte {
	if r.Bad() {
		return nil
	}
	if !may || skipped+n > r.Left() {
		r.good = false
		return nil
	}
	from := r.at + skipped
	r.at = from + n
	return r.bytes[from:r.at]
}

// At tells how many bytes were taken.
func (r *Reader) At() int {
	if r == nil {
		return 0
	}
	return r.at
}

// Left tells how many bytes are left.
func (r *Reader) Left() int {
	if r == nil {
		return 0
	}
	return len(r.bytes) - r.at
}

// Bad tells whether a read was refused, or this is nobody's reader.
func (r *Reader) Bad() bool {
	return r == nil || !r.good
}
