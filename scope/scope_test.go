package scope_test

import (
	"fmt"
	"math"
	"reflect"
	"slices"
	"strings"
	"testing"

	"sheerleg/api"
	"sheerleg/scope"
)

// chance gives numbers that look as if they hung on nothing, always the same ones.
type chance uint64

func (c *chance) next(n int) int {
	*c = *c*6364136223846793005 + 1442695040888963407
	return int(*c >> 33 % chance(n))
}

// numbers are those that any call may be given.
func numbers() []int {
	return []int{math.MinInt, math.MinInt + 1, -1 << 32, -65536, -257, -256, -129, -128, -3, -2, -1, 0, 1, 2, 3, 7, 8, 9, 127, 128, 255, 256, 257, 65535, 65536, 1 << 31, 1 << 32, 1<<32 + 1, math.MaxInt - 1, math.MaxInt}
}

// fn, dat are symbols that define items, ext ones that other files define, alone ones that are local.
func fn(name string, class, def int) api.Symbol {
	return api.Symbol{Name: name, Sort: api.SymFunc, Kind: class, Def: def}
}

func dat(name string, kind, def int) api.Symbol {
	return api.Symbol{Name: name, Sort: api.SymData, Kind: kind, Def: def}
}

func ext(name string, sort, kind int) api.Symbol {
	return api.Symbol{Name: name, Sort: sort, Kind: kind, Def: -1}
}

func alone(s api.Symbol) api.Symbol {
	s.Local = true
	return s
}

// file is an object of symbols alone: what they define is no matter of scope's.
func file(l ...api.Symbol) api.Object {
	return api.Object{Symbols: l}
}

func finds(t *testing.T, l []api.Object, name string, file, sym int, ok bool) {
	t.Helper()
	if f, s, is := scope.Find(l, name); f != file || s != sym || is != ok {
		t.Errorf("Find(%v, %q) = %d, %d, %v; want %d, %d, %v", l, name, f, s, is, file, sym, ok)
	}
}

func binds(t *testing.T, l []api.Object, file, sym int, toFile, toSym int, e api.Errno) {
	t.Helper()
	if f, s, why := scope.Bound(l, file, sym); f != toFile || s != toSym || why != e {
		t.Errorf("Bound(%v, %d, %d) = %d, %d, %v; want %d, %d, %v", l, file, sym, f, s, why, toFile, toSym, e)
	}
}

// is2nd holds Twice to the place of a second one.
func is2nd(t *testing.T, l []api.Object, file, sym int) {
	t.Helper()
	want := api.Reject{Why: api.ErrTwice, File: file, Item: sym}
	if r, ok := scope.Twice(l); r != want || !ok {
		t.Errorf("Twice(%v) = %v, %v; want %v, true", l, r, ok, want)
	}
}

func isOnce(t *testing.T, l []api.Object) {
	t.Helper()
	if r, ok := scope.Twice(l); r != (api.Reject{}) || ok {
		t.Errorf("Twice(%v) = %v, %v; want nothing", l, r, ok)
	}
}

func checks(t *testing.T, l []api.Object, e api.Errno, file, item int) {
	t.Helper()
	want := api.Reject{Why: e, File: file, Item: item}
	if r := scope.Check(l); r != want {
		t.Errorf("Check(%v) = %v; want %v", l, r, want)
	}
}

// Example 1.
func TestExample(t *testing.T) {
	l := []api.Object{file(fn("main", 0, 0)), file(ext("x", api.SymData, 0), fn("main", 0, 0))}
	is2nd(t, l, 1, 1)
	checks(t, l, api.ErrTwice, 1, 1)
}

// P23.1, Find: globals alone are found, the first one of a name.
func TestFind(t *testing.T) {
	finds(t, nil, "a", 0, 0, false)
	finds(t, []api.Object{}, "", 0, 0, false)
	finds(t, []api.Object{{}, {}}, "a", 0, 0, false)
	l := []api.Object{
		file(ext("a", api.SymFunc, 0), alone(fn("b", 0, 0)), fn("c", 1, 1), dat("one", 0, 0)),
		{},
		file(alone(fn("c", 0, 0)), fn("a", 0, 1), alone(dat("lone", 0, 0)), fn("b", 3, 2)),
		file(fn("b", 0, 0), ext("c", api.SymFunc, 1), dat("a", 2, 0), dat("last", 0, 1), ext("far", api.SymFunc, 0)),
	}
	finds(t, l, "a", 2, 1, true)
	finds(t, l, "b", 2, 3, true)
	finds(t, l, "c", 0, 2, true)
	finds(t, l, "one", 0, 3, true)
	finds(t, l, "last", 3, 3, true)
	for _, name := range []string{"", "nobody", "lone", "far", "on", "ones", "One", "ONE", " one", "one ", "one\x00", "\xff", strings.Repeat("one", 9)} {
		finds(t, l, name, 0, 0, false)
	}
	slices.Reverse(l)
	finds(t, l, "a", 0, 2, true)
	finds(t, l, "b", 0, 0, true)
	finds(t, l, "c", 3, 2, true)
}

// P23.1, Find: of two in one file the first one; whatever sort, kind, name or Def below -1 it has.
func TestFindOdd(t *testing.T) {
	finds(t, []api.Object{file(fn("a", 0, 0), fn("a", 0, 1))}, "a", 0, 0, true)
	finds(t, []api.Object{file(alone(fn("a", 0, 0)), ext("a", 1, 0), dat("a", 0, 1), fn("a", 0, 1))}, "a", 0, 2, true)
	finds(t, []api.Object{{}, file(fn("x", 0, 0), fn("", 0, 0))}, "", 1, 1, true)
	finds(t, []api.Object{file(fn("A \x00\xff", 0, 0))}, "A \x00\xff", 0, 0, true)
	for _, n := range numbers() {
		finds(t, []api.Object{file(api.Symbol{Name: "a", Sort: n, Kind: n, Def: 3})}, "a", 0, 0, true)
		finds(t, []api.Object{file(alone(fn("a", 0, n)))}, "a", 0, 0, false)
		finds(t, []api.Object{file(fn("a", 0, n))}, "a", 0, 0, n != -1)
	}
	var many []api.Object
	for i := range 300 {
		many = append(many, file(fn(fmt.Sprint("f", i), 0, 0)))
	}
	finds(t, many, "f299", 299, 0, true)
}

// P23.1, Bound: a symbol whose Def is not -1 is bound to itself, whoever else has its name.
func TestBoundToItself(t *testing.T) {
	l := []api.Object{file(fn("a", 0, 0), alone(fn("b", 1, 1)), dat("d", 0, 0)), file(fn("b", 0, 0), alone(dat("a", 3, 0)), fn("a", 0, 1), fn("a", 0, 2))}
	for at, o := range l {
		for sym := range o.Symbols {
			binds(t, l, at, sym, at, sym, api.OK)
		}
	}
	for _, n := range numbers() {
		if n != -1 {
			l := []api.Object{file(dat("a", 0, 0)), file(fn("x", 0, 0), api.Symbol{Name: "a", Sort: n, Kind: n, Def: n}, alone(api.Symbol{Name: "a", Sort: n, Kind: n, Def: n}))}
			binds(t, l, 1, 1, 1, 1, api.OK)
			binds(t, l, 1, 2, 1, 2, api.OK)
		}
	}
}

// P23.1, Bound: one whose Def is -1 is bound to the first global of its name, in a file ahead, its own, or one behind.
func TestBoundToOthers(t *testing.T) {
	l := []api.Object{
		file(ext("f", api.SymFunc, 3), fn("g", 1, 0), ext("d", api.SymData, 4), ext("own", api.SymData, 0), dat("own", 0, 0)),
		file(alone(fn("f", 3, 0)), alone(dat("d", 4, 0)), ext("g", api.SymFunc, 1)),
		file(ext("g", api.SymFunc, 1), fn("f", 3, 0), dat("d", 4, 0), ext("f", api.SymFunc, 3), alone(ext("g", api.SymFunc, 1))),
		file(ext("f", api.SymFunc, 3), ext("d", api.SymData, 4), fn("g", 1, 0), fn("f", 3, 1)),
	}
	for _, c := range [][4]int{{0, 0, 2, 1}, {0, 2, 2, 2}, {0, 3, 0, 4}, {1, 2, 0, 1}, {2, 0, 0, 1}, {2, 3, 2, 1}, {2, 4, 0, 1}, {3, 0, 2, 1}, {3, 1, 2, 2}} {
		binds(t, l, c[0], c[1], c[2], c[3], api.OK)
	}
	for _, n := range numbers() {
		odd := api.Symbol{Name: "", Sort: n, Kind: n, Def: -2}
		outer := odd
		outer.Def = -1
		binds(t, []api.Object{file(outer), file(odd)}, 0, 0, 1, 0, api.OK)
	}
}

// P23.1, ErrArg: a file, or a symbol, that is not there.
func TestBoundArg(t *testing.T) {
	l := []api.Object{file(fn("a", 0, 0), fn("b", 0, 1)), {}, file(fn("c", 0, 0))}
	for _, n := range numbers() {
		binds(t, nil, n, 0, 0, 0, api.ErrArg)
		binds(t, []api.Object{}, 0, n, 0, 0, api.ErrArg)
		binds(t, l, 1, n, 0, 0, api.ErrArg)
		binds(t, l, n, n, 0, 0, map[bool]api.Errno{true: api.OK, false: api.ErrArg}[n == 0])
		if n < 0 || n > 2 {
			binds(t, l, n, 0, 0, 0, api.ErrArg)
		}
		if n < 0 || n > 1 {
			binds(t, l, 0, n, 0, 0, api.ErrArg)
		}
		if n != 0 {
			binds(t, l, 2, n, 0, 0, api.ErrArg)
		}
	}
	binds(t, l, 0, 1, 0, 1, api.OK)
	binds(t, l, 2, 0, 2, 0, api.OK)
}

// P23.1, ErrNone: nobody has the name, or no global.
func TestBoundNone(t *testing.T) {
	a := ext("a", api.SymFunc, 0)
	for _, l := range [][]api.Object{
		{file(fn("b", 0, 0), a)},
		{file(alone(fn("a", 0, 0)), a)},
		{file(ext("a", api.SymFunc, 0), a)},
		{file(dat("aa", 0, 0), a, fn("A", 0, 0), fn("", 0, 1)), file(fn("a ", 0, 0))},
		{file(alone(dat("a", 0, 0)), a), file(alone(fn("a", 0, 0))), file(ext("a", api.SymFunc, 0))},
		{file(fn("x", 0, 0), alone(a)), file(alone(fn("a", 0, 0)))},
	} {
		binds(t, l, 0, 1, 0, 0, api.ErrNone)
	}
}

// P23.1, ErrClass: the first global of the name is of another sort, or kind, also where a later one, or a local one, is of that; and where sorts and kinds are none.
func TestBoundClass(t *testing.T) {
	for _, sort := range []int{api.SymFunc, api.SymData, 0, 3, -1, math.MaxInt} {
		for _, kind := range []int{0, 1, 7, 8, 9, -1, math.MinInt} {
			l := []api.Object{file(fn("x", 0, 0), ext("a", sort, kind))}
			for _, n := range append(numbers(), sort, kind) {
				of := api.Symbol{Name: "a", Sort: sort, Kind: n, Def: 0}
				e := map[bool]api.Errno{true: api.OK, false: api.ErrClass}
				at := map[bool]int{true: 1}[n == kind]
				binds(t, append(l, file(of)), 0, 1, at, 0, e[n == kind])
				binds(t, append(l, file(alone(api.Symbol{Name: "a", Sort: sort, Kind: kind})), file(of)), 0, 1, 2*at, 0, e[n == kind])
				of = api.Symbol{Name: "a", Sort: n, Kind: kind, Def: 0}
				at = map[bool]int{true: 1}[n == sort]
				binds(t, append(l, file(of)), 0, 1, at, 0, e[n == sort])
				binds(t, append(l, file(of), file(api.Symbol{Name: "a", Sort: sort, Kind: kind})), 0, 1, at, 0, e[n == sort])
			}
		}
	}
}

// P23.2: the second one of a name in one file, or in another one; the first of several, and of three of a name.
func TestTwice(t *testing.T) {
	a, b, c := fn("a", 0, 0), dat("b", 0, 0), fn("c", 1, 1)
	is2nd(t, []api.Object{file(a, a)}, 0, 1)
	is2nd(t, []api.Object{file(b, a, c, fn("a", 3, 7))}, 0, 3)
	is2nd(t, []api.Object{file(a), file(a)}, 1, 0)
	is2nd(t, []api.Object{file(a, b), {}, file(c, dat("b", 4, 1))}, 2, 1)
	is2nd(t, []api.Object{file(a), file(dat("a", 0, 0))}, 1, 0)
	is2nd(t, []api.Object{file(a, b), file(c, b, a), file(a)}, 1, 1)
	is2nd(t, []api.Object{file(a, b), file(c), file(a), file(a, b)}, 2, 0)
	is2nd(t, []api.Object{file(a, b, b, a)}, 0, 2)
	is2nd(t, []api.Object{file(a, b, c, c), file(a)}, 0, 3)
	is2nd(t, []api.Object{file(fn("", 0, 0)), file(fn("", 0, 0))}, 1, 0)
	is2nd(t, []api.Object{file(fn("a", 0, -2)), file(fn("a", 0, math.MinInt))}, 1, 0)
	is2nd(t, []api.Object{file(api.Symbol{Name: "a", Sort: 9, Kind: -9}), file(api.Symbol{Name: "a", Sort: math.MaxInt})}, 1, 0)
	is2nd(t, append(slices.Repeat([]api.Object{{}}, 300), file(a), file(b, a)), 301, 1)
}

// P23.2: what is local, or other files', is no second one, nor has a second one.
func TestOnce(t *testing.T) {
	a := fn("a", 0, 0)
	isOnce(t, nil)
	isOnce(t, []api.Object{})
	isOnce(t, []api.Object{{}, {}})
	isOnce(t, []api.Object{file(a)})
	isOnce(t, []api.Object{file(a, fn("A", 0, 0), fn("aa", 0, 0), fn("", 0, 0), fn("a ", 0, 0))})
	isOnce(t, []api.Object{file(a), file(alone(a)), file(ext("a", api.SymFunc, 0)), file(alone(a), alone(a))})
	isOnce(t, []api.Object{file(alone(a)), file(ext("a", api.SymFunc, 0)), file(a)})
	isOnce(t, []api.Object{file(ext("a", 1, 0), ext("a", 1, 0), ext("a", 2, 0))})
	isOnce(t, []api.Object{file(alone(a)), file(alone(a))})
}

// lone is so many files, each of which defines a name of its own.
func lone(files int) []api.Object {
	var l []api.Object
	for i := range files {
		l = append(l, file(fn(fmt.Sprint("f", i), 0, 0)))
	}
	return l
}

// P23.3, ErrMany: no files, or more than there may be, ahead of all else.
func TestFiles(t *testing.T) {
	checks(t, nil, api.ErrMany, -1, -1)
	checks(t, []api.Object{}, api.ErrMany, -1, -1)
	for files := 1; files <= 6; files++ {
		checks(t, lone(files), api.OK, 0, 0)
		checks(t, make([]api.Object, files), api.OK, 0, 0)
	}
	for _, files := range []int{7, 8, 256, 257, 262, 65536, 65537} {
		checks(t, lone(files), api.ErrMany, -1, -1)
		checks(t, make([]api.Object, files), api.ErrMany, -1, -1)
	}
	a := file(fn("a", 0, 0), fn("a", 0, 0), ext("b", 1, 0))
	checks(t, []api.Object{a, a, a, a, a, a, a}, api.ErrMany, -1, -1)
	checks(t, []api.Object{a, a, a, a, a, a}, api.ErrTwice, 0, 1)
}

// P23.3: Twice's comes ahead of Bound's errors, of which the first one is told.
func TestCheck(t *testing.T) {
	a, b := fn("a", 0, 0), ext("b", api.SymFunc, 3)
	x := ext("x", api.SymData, 0)
	checks(t, []api.Object{file(a, b), file(fn("b", 3, 0), ext("a", api.SymFunc, 0))}, api.OK, 0, 0)
	checks(t, []api.Object{file(b, a), file(a)}, api.ErrTwice, 1, 0)
	checks(t, []api.Object{file(b, a, a)}, api.ErrTwice, 0, 2)
	checks(t, []api.Object{file(b, x), file(fn("b", 0, 0)), file(dat("b", 0, 0))}, api.ErrTwice, 2, 0)
	checks(t, []api.Object{file(b)}, api.ErrNone, 0, 0)
	checks(t, []api.Object{file(a, b)}, api.ErrNone, 0, 1)
	checks(t, []api.Object{file(a), {}, file(fn("c", 0, 0), alone(fn("b", 3, 1)), b, x)}, api.ErrNone, 2, 2)
	checks(t, []api.Object{file(a, b), file(fn("b", 2, 0))}, api.ErrClass, 0, 1)
	checks(t, []api.Object{file(fn("b", 2, 0)), file(a, b)}, api.ErrClass, 1, 1)
	checks(t, []api.Object{file(dat("b", 3, 0)), file(a, b)}, api.ErrClass, 1, 1)
	checks(t, []api.Object{file(a, b, x), file(fn("b", 2, 0))}, api.ErrClass, 0, 1)
	checks(t, []api.Object{file(a, x, b), file(fn("b", 2, 0))}, api.ErrNone, 0, 1)
	checks(t, []api.Object{file(fn("b", 3, 0), b), file(b, b, x), file(x, b)}, api.ErrNone, 1, 2)
	checks(t, []api.Object{file(fn("b", 3, 0), b), file(b, b, x), file(dat("x", 0, 0))}, api.OK, 0, 0)
	checks(t, []api.Object{file(alone(b))}, api.ErrNone, 0, 0)
	checks(t, []api.Object{file(fn("", -3, -2), ext("", api.SymFunc, -3), api.Symbol{Sort: 9, Def: -9, Local: true})}, api.OK, 0, 0)
}

// globalOracle is where the first global of that name is, among those ahead of a place (of all, if file is behind the last).
func globalOracle(l []api.Object, name string, file, sym int) (int, int, bool) {
	for f := 0; f < len(l); f++ {
		for s := 0; s < len(l[f].Symbols); s++ {
			if f > file || f == file && s >= sym {
				return 0, 0, false
			}
			if x := l[f].Symbols[s]; x.Name == name && !x.Local && x.Def != -1 {
				return f, s, true
			}
		}
	}
	return 0, 0, false
}

func boundOracle(l []api.Object, file, sym int) (int, int, api.Errno) {
	if file < 0 || file >= len(l) || sym < 0 || sym >= len(l[file].Symbols) {
		return 0, 0, api.ErrArg
	}
	x := l[file].Symbols[sym]
	if x.Def != -1 {
		return file, sym, api.OK
	}
	f, s, ok := globalOracle(l, x.Name, len(l), 0)
	if !ok {
		return 0, 0, api.ErrNone
	}
	if y := l[f].Symbols[s]; y.Sort != x.Sort || y.Kind != x.Kind {
		return 0, 0, api.ErrClass
	}
	return f, s, api.OK
}

func twiceOracle(l []api.Object) (api.Reject, bool) {
	for f, o := range l {
		for s, x := range o.Symbols {
			if x.Local || x.Def == -1 {
				continue
			}
			if _, _, ok := globalOracle(l, x.Name, f, s); ok {
				return api.Reject{Why: api.ErrTwice, File: f, Item: s}, true
			}
		}
	}
	return api.Reject{}, false
}

func checkOracle(l []api.Object) api.Reject {
	if len(l) < 1 || len(l) > 6 {
		return api.Reject{Why: api.ErrMany, File: -1, Item: -1}
	}
	if r, ok := twiceOracle(l); ok {
		return r
	}
	for f, o := range l {
		for s := range o.Symbols {
			if _, _, e := boundOracle(l, f, s); e != api.OK {
				return api.Reject{Why: e, File: f, Item: s}
			}
		}
	}
	return api.Reject{}
}

// some is files of which most are right, or nearly so: of one name few are global, and mostly all have one class.
func (c *chance) some() []api.Object {
	l := make([]api.Object, c.next(8))
	for f := range l {
		for range c.next(5) {
			name := c.next(12)
			s := api.Symbol{Name: fmt.Sprint("s", name), Sort: 1 + name%2, Kind: name % 3, Def: c.next(3) - 1}
			if c.next(4) > 0 && s.Def != -1 {
				s.Local = f != name%len(l)
			}
			if c.next(40) == 0 {
				s.Kind++
			}
			if c.next(40) == 0 {
				s.Sort = c.next(5) - 1
			}
			if c.next(40) == 0 {
				s.Def = -2
			}
			l[f].Symbols = append(l[f].Symbols, s)
		}
	}
	return l
}

// copied shares nothing with l.
func copied(l []api.Object) []api.Object {
	l = slices.Clone(l)
	for i := range l {
		l[i].Symbols = slices.Clone(l[i].Symbols)
	}
	return l
}

// P23.1 to P23.3: many files, held against the oracles; each error comes, and no file is changed.
func TestMany(t *testing.T) {
	c := chance(23)
	seen := map[api.Errno]int{}
	for range 60000 {
		l := c.some()
		was := copied(l)
		for name := range 13 {
			s := fmt.Sprint("s", name)
			f, at, ok := globalOracle(l, s, len(l), 0)
			finds(t, l, s, f, at, ok)
		}
		for file := -1; file <= len(l); file++ {
			for sym := -1; sym <= 5; sym++ {
				f, s, e := boundOracle(l, file, sym)
				binds(t, l, file, sym, f, s, e)
			}
		}
		if r, ok := twiceOracle(l); ok {
			is2nd(t, l, r.File, r.Item)
		} else {
			isOnce(t, l)
		}
		r := checkOracle(l)
		checks(t, l, r.Why, r.File, r.Item)
		seen[r.Why]++
		if !reflect.DeepEqual(l, was) {
			t.Errorf("%v came to be %v", was, l)
		}
		if t.Failed() {
			return
		}
	}
	for _, e := range []api.Errno{api.OK, api.ErrMany, api.ErrTwice, api.ErrNone, api.ErrClass} {
		if seen[e] < 400 {
			t.Errorf("%v comes %d times", e, seen[e])
		}
	}
}

// P23.4: what Check takes it takes also with files turned round.
func TestTurned(t *testing.T) {
	c := chance(234)
	taken := 0
	for range 60000 {
		l := c.some()
		if scope.Check(l).Why != api.OK {
			continue
		}
		taken++
		for range len(l) {
			l = append(l[1:], l[0])
			checks(t, l, api.OK, 0, 0)
		}
		slices.Reverse(l)
		checks(t, l, api.OK, 0, 0)
	}
	if taken < 1000 {
		t.Errorf("%d are taken", taken)
	}
	l := []api.Object{file(ext("a", 1, 3), fn("b", 0, 0), ext("d", 2, 8)), file(fn("a", 3, 0), alone(fn("b", 1, 1))), file(dat("d", 8, 0), ext("b", 1, 0))}
	checks(t, l, api.OK, 0, 0)
	slices.Reverse(l)
	checks(t, l, api.OK, 0, 0)
}

// P7: each call ends at numbers, and symbols, of all sorts.
func TestEnds(t *testing.T) {
	var l []api.Object
	for _, n := range numbers() {
		for _, name := range []string{"", "a", "\xff\x00", strings.Repeat("a", 300)} {
			l = append(l, file(api.Symbol{Name: name, Sort: n, Kind: n, Def: n}, ext(name, n, n), api.Symbol{Name: name, Local: true, Sort: n, Kind: -n, Def: n}))
		}
	}
	for at := range l {
		for _, many := range []int{1, 6, 7} {
			part := l[at:min(at+many, len(l))]
			for _, file := range numbers() {
				for _, sym := range numbers() {
					f, s, e := boundOracle(part, file, sym)
					binds(t, part, file, sym, f, s, e)
				}
			}
			r := checkOracle(part)
			checks(t, part, r.Why, r.File, r.Item)
		}
	}
}

// P7: long lists are gone through in time.
func TestMuch(t *testing.T) {
	const n = 100000
	var here, there []api.Symbol
	for i := range n {
		here = append(here, fn(fmt.Sprint("f", i), 0, i))
		there = append(there, ext(fmt.Sprint("f", n-1-i), api.SymFunc, 0))
	}
	checks(t, []api.Object{file(there...), file(here...)}, api.OK, 0, 0)
	checks(t, []api.Object{file(there...), file(here...), file(there...), file(here[n-1])}, api.ErrTwice, 3, 0)
	checks(t, []api.Object{file(there...), file(here[1:]...)}, api.ErrNone, 0, n-1)
	finds(t, []api.Object{file(there...), file(here...)}, "f99999", 1, n-1, true)
	binds(t, []api.Object{file(there...), file(here...)}, 0, 0, 1, n-1, api.OK)
	isOnce(t, lone(n))
	is2nd(t, append(lone(n), lone(1)...), n, 0)
}
