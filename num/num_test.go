package num_test

import (
	"math"
	"math/big"
	"testing"

	"sheerleg/api"
	"sheerleg/num"
)

const (
	least    = math.MinInt64
	greatest = math.MaxInt64
)

// edges are the numbers at which reckoning changes its ways.
func edges() []int64 {
	return []int64{least, least + 1, least / 2, -1<<32 - 1, -1 << 32, -1 << 31, -256, -100, -8, -7, -3, -2, -1, 0, 1, 2, 3, 7, 8, 100, 255, 1 << 31, 1<<32 - 1, 1 << 32, 3037000500, 1<<62 - 1, 1 << 62, greatest - 1, greatest}
}

// round is n modulo 2^64, as a number with a sign.
func round(n *big.Int) int64 {
	m := new(big.Int).And(n, new(big.Int).SetUint64(math.MaxUint64))
	return int64(m.Uint64())
}

// oracle reckons without bounds, and goes round at the end.
func oracle(op int, b, c int64) int64 {
	x, y, z := big.NewInt(b), big.NewInt(c), new(big.Int)
	switch op {
	case api.OpAdd:
		return round(z.Add(x, y))
	case api.OpSub:
		return round(z.Sub(x, y))
	case api.OpMul:
		return round(z.Mul(x, y))
	case api.OpDiv:
		return round(z.Quo(x, y))
	case api.OpMod:
		return round(z.Sub(x, new(big.Int).Mul(y, z.Quo(x, y))))
	case api.OpLess:
		if x.Cmp(y) < 0 {
			return 1
		}
	case api.OpSame:
		if x.Cmp(y) == 0 {
			return 1
		}
	}
	return 0
}

// P1.1, the examples and edges written out.
func TestDoNamed(t *testing.T) {
	for _, x := range []struct {
		op   int
		b, c int64
		want int64
	}{
		{api.OpAdd, 2, 3, 5},
		{api.OpAdd, greatest, 1, least},
		{api.OpAdd, least, -1, greatest},
		{api.OpAdd, least, least, 0},
		{api.OpSub, 2, 3, -1},
		{api.OpSub, least, 1, greatest},
		{api.OpSub, greatest, -1, least},
		{api.OpSub, 0, least, least},
		{api.OpMul, -4, 3, -12},
		{api.OpMul, least, -1, least},
		{api.OpMul, 1 << 32, 1 << 32, 0},
		{api.OpMul, greatest, greatest, 1},
		{api.OpDiv, -7, 2, -3},
		{api.OpMod, -7, 2, -1},
		{api.OpDiv, 7, -2, -3},
		{api.OpMod, 7, -2, 1},
		{api.OpDiv, -7, -2, 3},
		{api.OpMod, -7, -2, -1},
		{api.OpDiv, 1, 2, 0},
		{api.OpDiv, 0, 5, 0},
		{api.OpMod, 0, 5, 0},
		{api.OpDiv, least, -1, least},
		{api.OpMod, least, -1, 0},
		{api.OpDiv, least, 1, least},
		{api.OpLess, 1, 2, 1},
		{api.OpLess, 2, 2, 0},
		{api.OpLess, 3, 2, 0},
		{api.OpLess, least, greatest, 1},
		{api.OpLess, greatest, least, 0},
		{api.OpSame, 2, 2, 1},
		{api.OpSame, 2, -2, 0},
		{api.OpSame, least, least, 1},
		{api.OpSame, 1, 1<<32 + 1, 0},
	} {
		if n, ok := num.Do(x.op, x.b, x.c); n != x.want || !ok {
			t.Errorf("Do(%d, %d, %d) = %d, %v; want %d, true", x.op, x.b, x.c, n, ok, x.want)
		}
	}
}

// P1.1, all operations at all edges.
func TestDoEdges(t *testing.T) {
	for op := api.OpAdd; op <= api.OpSame; op++ {
		for _, b := range edges() {
			for _, c := range edges() {
				n, ok := num.Do(op, b, c)
				if c == 0 && (op == api.OpDiv || op == api.OpMod) {
					if n != 0 || ok {
						t.Errorf("Do(%d, %d, 0) = %d, %v; want 0, false", op, b, n, ok)
					}
				} else if want := oracle(op, b, c); n != want || !ok {
					t.Errorf("Do(%d, %d, %d) = %d, %v; want %d, true", op, b, c, n, ok, want)
				}
			}
		}
	}
}

// P1.1, what is no operation of two numbers.
func TestDoRefused(t *testing.T) {
	ops := []int{math.MinInt, -256, -5, -4, -1, math.MaxInt, 1 << 32, 1<<32 + api.OpAdd, 256 + api.OpAdd}
	for op := 0; op <= 64; op++ {
		if op < api.OpAdd || op > api.OpSame {
			ops = append(ops, op)
		}
	}
	for _, op := range ops {
		for _, b := range edges() {
			for _, c := range edges() {
				if n, ok := num.Do(op, b, c); n != 0 || ok {
					t.Errorf("Do(%d, %d, %d) = %d, %v; want 0, false", op, b, c, n, ok)
				}
			}
		}
	}
}

// P1.2, Near.
func TestNear(t *testing.T) {
	for _, x := range []struct{ n, lo, hi, want int }{
		{2, 1, 3, 2},
		{1, 1, 3, 1},
		{3, 1, 3, 3},
		{0, 1, 3, 1},
		{4, 1, 3, 3},
		{-9, -5, -2, -5},
		{-1, -5, -2, -2},
		{5, 5, 5, 5},
		{4, 5, 5, 5},
		{6, 5, 5, 5},
		{0, 3, 1, 3}, // the bounds turned round: lo is asked first
		{2, 3, 1, 3},
		{3, 3, 1, 1},
		{4, 3, 1, 1},
		{math.MinInt, -1, 1, -1},
		{math.MaxInt, -1, 1, 1},
		{math.MinInt, math.MinInt, math.MaxInt, math.MinInt},
		{math.MaxInt, math.MinInt, math.MaxInt, math.MaxInt},
		{0, math.MaxInt, math.MinInt, math.MaxInt},
		{math.MinInt, math.MaxInt, math.MaxInt, math.MaxInt},
		{math.MaxInt, math.MinInt, math.MinInt, math.MinInt},
	} {
		if n := num.Near(x.n, x.lo, x.hi); n != x.want {
			t.Errorf("Near(%d, %d, %d) = %d; want %d", x.n, x.lo, x.hi, n, x.want)
		}
	}
}

// P1.2, Fits at each number of bits.
func TestFitsBits(t *testing.T) {
	for bits := 0; bits <= 62; bits++ {
		over := int64(1) << bits
		if !num.Fits(0, bits) || !num.Fits(over-1, bits) {
			t.Errorf("Fits(%d, %d) = false", over-1, bits)
		}
		for _, n := range []int64{over, over + 1, greatest, -1, -over, least} {
			if num.Fits(n, bits) {
				t.Errorf("Fits(%d, %d) = true", n, bits)
			}
		}
	}
}

// P1.2, Fits at numbers of bits that may not be.
func TestFitsRefused(t *testing.T) {
	for _, bits := range []int{math.MinInt, math.MinInt + 8, -64, -63, -2, -1, 63, 64, 65, 126, 127, 128, 256, 1 << 32, math.MaxInt} {
		for _, n := range edges() {
			if num.Fits(n, bits) {
				t.Errorf("Fits(%d, %d) = true", n, bits)
			}
		}
	}
}

// P1.3.
func TestDouble(t *testing.T) {
	for _, x := range []struct {
		n, least, most, want int
		ok                   bool
	}{
		{100, 350, 1000, 400, true},
		{100, 400, 1000, 400, true},
		{100, 401, 1000, 800, true},
		{100, 400, 400, 400, true},
		{100, 400, 399, 0, false},
		{100, 350, 399, 0, false},
		{100, 350, 350, 0, false},
		{5, 5, 5, 5, true},
		{5, 4, 5, 5, true},
		{5, 5, 4, 0, false}, // above most with no doubling
		{5, 1, 4, 0, false},
		{5, -9, 9, 5, true},
		{5, -9, -1, 0, false},
		{5, math.MinInt, math.MaxInt, 5, true},
		{5, math.MinInt, math.MinInt, 0, false},
		{1, 9, 5, 0, false}, // least above most
		{1, 1, 1, 1, true},
		{1, 2, 1, 0, false},
		{1, 2, 2, 2, true},
		{0, 0, 9, 0, false},
		{0, 5, 9, 0, false},
		{0, -5, 9, 0, false},
		{-1, -5, 9, 0, false},
		{-4, 5, 9, 0, false},
		{math.MinInt, math.MinInt, math.MaxInt, 0, false},
		{math.MinInt, 1, math.MaxInt, 0, false},
		{1, 1 << 62, math.MaxInt, 1 << 62, true},
		{1, 1<<62 + 1, math.MaxInt, 0, false},
		{1, math.MaxInt, math.MaxInt, 0, false},
		{3, math.MaxInt, math.MaxInt, 0, false},
		{1 << 62, 1 << 62, 1 << 62, 1 << 62, true},
		{1 << 62, 1<<62 + 1, math.MaxInt, 0, false},
		{1<<62 - 1, 1 << 62, math.MaxInt, math.MaxInt - 1, true},
		{1<<62 - 1, 1 << 62, math.MaxInt - 2, 0, false},
		{math.MaxInt, math.MaxInt, math.MaxInt, math.MaxInt, true},
		{math.MaxInt, 1, math.MaxInt - 1, 0, false},
		{math.MaxInt - 1, math.MaxInt, math.MaxInt, 0, false},
	} {
		if n, ok := num.Double(x.n, x.least, x.most); n != x.want || ok != x.ok {
			t.Errorf("Double(%d, %d, %d) = %d, %v; want %d, %v", x.n, x.least, x.most, n, ok, x.want, x.ok)
		}
	}
}

// P1.3, all small numbers, held against the doubles written out one by one.
func TestDoubleSmall(t *testing.T) {
	for n := -2; n <= 12; n++ {
		for least := -2; least <= 50; least++ {
			for most := -2; most <= 100; most++ {
				want, ok := 0, false
				for _, times := range []int{1, 2, 4, 8, 16, 32, 64} {
					if n >= 1 && n*times >= least {
						want, ok = n*times, n*times <= most
						break
					}
				}
				if !ok {
					want = 0
				}
				if got, is := num.Double(n, least, most); got != want || is != ok {
					t.Fatalf("Double(%d, %d, %d) = %d, %v; want %d, %v", n, least, most, got, is, want, ok)
				}
			}
		}
	}
}

// P1.4.
func TestQuotientAndRest(t *testing.T) {
	for _, b := range edges() {
		for _, c := range edges() {
			if c == 0 {
				continue
			}
			q, _ := num.Do(api.OpDiv, b, c)
			rest, _ := num.Do(api.OpMod, b, c)
			product, _ := num.Do(api.OpMul, q, c)
			if sum, ok := num.Do(api.OpAdd, product, rest); sum != b || !ok {
				t.Errorf("%d by %d: %d times the divisor, and %d, are %d", b, c, q, rest, sum)
			}
			if big.NewInt(rest).CmpAbs(big.NewInt(c)) >= 0 {
				t.Errorf("%d by %d: %d is left, no nearer to 0 than the divisor", b, c, rest)
			}
		}
	}
}

// P7, of num: each call ends, and answers alike when it is asked again.
func TestNumEnds(t *testing.T) {
	all := []int{math.MinInt, math.MinInt + 1, -64, -1, 0, 1, 2, 8, 63, 64, 1 << 32, 1 << 62, math.MaxInt - 1, math.MaxInt}
	for _, a := range all {
		for _, b := range all {
			if num.Fits(int64(a), b) != num.Fits(int64(a), b) {
				t.Error("Fits", a, b)
			}
			for _, c := range all {
				n, ok := num.Do(a, int64(b), int64(c))
				if m, is := num.Do(a, int64(b), int64(c)); m != n || is != ok {
					t.Error("Do", a, b, c)
				}
				if num.Near(a, b, c) != num.Near(a, b, c) {
					t.Error("Near", a, b, c)
				}
				d, ok := num.Double(a, b, c)
				if e, is := num.Double(a, b, c); e != d || is != ok || !ok && d != 0 {
					t.Error("Double", a, b, c)
				}
			}
		}
	}
}
