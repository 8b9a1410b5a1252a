// Package num is layer 1: numbers that go round. See shared/doc/01-num.md.
package num

import "sheerleg/api"

// deed is what an operation does with two numbers.
type deed struct {
	op      int
	divides bool
	do      func(b, c int64) int64
}

// Do reckons as the operation says; false: it has no answer.
func Do(op int, b, c int64) (int64, bool) {
	d, ok := find(op, deeds()...)
	if !ok || d.divides && c == 0 {
		return 0, false
	}
	return d.do(b, c), true
}

// deeds leans on the language's own numbers: they go round, and its quotient is cut towards 0, that of the least number by -1 being the least number.
func deeds() []deed {
	return []deed{
		{op: api.OpAdd, do: func(b, c int64) int64 { return b + c }},
		{op: api.OpSub, do: func(b, c int64) int64 { return b - c }},
		{op: api.OpMul, do: func(b, c int64) int64 { return b * c }},
		{op: api.OpDiv, divides: true, do: func(b, c int64) int64 { return b / c }},
		{op: api.OpMod, divides: true, do: func(b, c int64) int64 { return b % c }},
		{op: api.OpLess, do: func(b, c int64) int64 { return truth(b < c) }},
		{op: api.OpSame, do: func(b, c int64) int64 { return truth(b == c) }},
	}
}

func find(op int, l ...deed) (deed, bool) {
	for _, d := range l {
		if d.op == op {
			return d, true
		}
	}
	return deed{}, false
}

func truth(holds bool) int64 {
	if holds {
		return 1
	}
	return 0
}

// Near is n, or the bound that it is beyond.
func Near(n, lo, hi int) int {
	if n < lo {
		return lo
	}
	if n > hi {
		return hi
	}
	return n
}

// Fits tells whether so many bits, without a sign, hold n.
func Fits(n int64, bits int) bool {
	return 0 <= bits && bits <= 62 && 0 <= n && n < 1<<bits
}

// Double is n, doubled till it is at least least; false: there is no such number up to most.
func Double(n, least, most int) (int, bool) {
	if n < 1 || n > most {
		return 0, false
	}
	for n < least {
		// Held against the half, as the double itself might go round.
		if n > most/2 {
			return 0, false
		}
		n *= 2
	}
	return n, true
}
