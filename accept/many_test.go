package accept_test

import (
	"fmt"
	"reflect"
	"slices"
	"strings"
	"testing"

	"sheerleg/accept"
	"sheerleg/api"
	"sheerleg/bind"
	"sheerleg/chain"
	"sheerleg/file"
	"sheerleg/live"
	"sheerleg/sum"
)

// chance gives numbers that look as if they hung on nothing, always the same ones.
type chance uint64

func (c *chance) next(n int) int {
	*c = *c*6364136223846793005 + 1442695040888963407
	return int(*c >> 33 % chance(n))
}

// seldom is true once in so many times.
func (c *chance) seldom(n int) bool {
	return c.next(n) == 0
}

// one is one of l.
func one[T any](c *chance, l ...T) T {
	return l[c.next(len(l))]
}

// some is a program in which numbers may be wrong, with functions and data that are as great as references reach.
func (c *chance) some() api.Program {
	var funs []api.Fun
	var dats []api.Dat
	many, others := c.next(6), c.next(5)
	number := func(n int) int {
		if c.seldom(9) {
			return one(c, numbers()...)
		}
		return c.next(n + 1)
	}
	great := func() int { return one(c, 0, 1, 9, 60, 120, 250, 252, 253, 254) + 65280*(c.next(60)/59) }
	for range many {
		var l []does
		for range c.next(3) {
			if c.next(2) == 0 {
				l = append(l, does{one(c, toFunctions()...), number(many), one(c, 0, 8, 8, 16)})
			} else {
				l = append(l, does{one(c, toData()...), number(others), one(c, 0, 8, 8, 16)})
			}
		}
		f := fun(great(), l...)
		f.F.Nosplit, f.F.Pad = c.next(2) == 0, one(c, 0, 1, 20, 60)
		funs = append(funs, f)
	}
	for range others {
		dats = append(dats, dat(great(), slices.Repeat([]does{{0, number(many), one(c, 0, 8, 16)}}, c.next(2))...))
	}
	return program(funs, dats...)
}

// layoutOracle lays down what the full plan's image has: of each function where it starts, of each data their address.
func layoutOracle(p api.Program) (starts, addrs []int) {
	code := make([]bool, 2)
	for _, f := range p.Funs {
		starts = append(starts, len(code))
		code = append(code, make([]bool, len(f.F.Code)+map[bool]int{true: 1, false: 2}[f.F.Nosplit])...)
	}
	var words []bool
	for _, d := range p.Dats {
		addrs = append(addrs, len(words))
		words = append(words, make([]bool, 1+len(d.D.Words))...)
	}
	return starts, addrs
}

// isFarOracle tells whether the reference is far, among addresses of those to which it may refer.
func isFarOracle(x api.Reloc, refs, addresses []int) bool {
	for number, address := range addresses {
		if refs[x.At] == number {
			return address > map[bool]int{true: 65535, false: 255}[x.Wide]
		}
	}
	return false
}

func farOracle(p api.Program) api.Reject {
	starts, addrs := layoutOracle(p)
	for at, f := range p.Funs {
		for _, x := range f.F.Relocs {
			addresses := starts
			if slices.Contains(toData(), f.F.Code[x.At].Op) {
				addresses = addrs
			}
			if isFarOracle(x, f.Refs, addresses) {
				return atFun(p, at)
			}
		}
	}
	for at, d := range p.Dats {
		for _, x := range d.D.Relocs {
			if isFarOracle(x, d.Refs, starts) {
				return atDat(p, at)
			}
		}
	}
	return api.Reject{}
}

// P30.1: many programs, held against the oracle; none is changed.
func TestMany(t *testing.T) {
	c := chance(30)
	seen := map[string]int{}
	for range 2000 {
		p := c.some()
		was := fmt.Sprint(p.Entry, len(p.Funs), len(p.Dats), sketch(p))
		want := farOracle(p)
		isFar(t, p, want)
		if r := chain.Check(p, chain.Nosplit(p)); r.Why != api.OK {
			want = r
		}
		checks(t, p, want)
		if now := fmt.Sprint(p.Entry, len(p.Funs), len(p.Dats), sketch(p)); now != was {
			t.Errorf("%s came to be %s", was, now)
		}
		if t.Failed() {
			return
		}
		seen[want.Why.Error()]++
		if r := farOracle(p); r.Why != api.OK && slices.ContainsFunc(p.Dats, func(d api.Dat) bool { return d.File == r.File }) {
			seen["data"]++
		}
	}
	for _, what := range []string{"ok", "far", "cycle", "deep", "arg", "data"} {
		if seen[what] < 50 {
			t.Errorf("%s: %d", what, seen[what])
		}
	}
}

// text is that of one of so many files, which has functions f of class f0, and data d; those whose number is the file's, by files, it defines, and to others it refers.
func (c *chance) text(file, files int) string {
	var lines []string
	const funs, dats = 9, 7
	for i := range dats {
		if i%files == file != c.seldom(200) {
			lines = append(lines, fmt.Sprint("data d", i, " n"))
			lines = append(lines, slices.Repeat([]string{"word 7"}, one(c, 0, 3, 31, 32))...)
		} else {
			lines = append(lines, fmt.Sprint("extern data d", i, " n"))
		}
	}
	for i := range funs {
		if i%files == file != c.seldom(200) {
			lines = append(lines, c.function(i, funs, dats)...)
		} else {
			lines = append(lines, fmt.Sprint("extern proc f", i, " f0"))
		}
	}
	if c.seldom(3) {
		lines = append(lines, "data t f0 local", fmt.Sprint("word @f", c.next(funs), one(c, "", "", " short")))
	}
	return strings.Join(lines, "\n")
}

// function is the lines of one of so many functions, which refers mostly to such as have greater numbers.
func (c *chance) function(number, funs, dats int) []string {
	l := []string{fmt.Sprint("proc f", number, " f0", one(c, "", "", " nosplit")), fmt.Sprint("pad ", one(c, 0, 0, 1, 9, 20, 30, 52, 53, 54))}
	code := slices.Repeat([]string{"nop"}, one(c, 0, 2, 30, 50, 55))
	for range c.next(4) {
		to := c.next(funs)
		if !c.seldom(8) {
			to = min(funs-1, number+1+c.next(funs))
		}
		short := one(c, "", "", " short")
		code = append(code, one(c,
			fmt.Sprint("call 0 @f", to, short), fmt.Sprint("call 0 @f", to, short), fmt.Sprint("defer 0 @f", to, short), fmt.Sprint("func 1 @f", to, short), "via 0 1 f0",
			fmt.Sprint("load 0 0 @d", c.next(dats), short), fmt.Sprint("store 0 0 @d", c.next(dats), short)))
	}
	return append(append(append(l, fmt.Sprint("range 0 ", len(code)+1), "slots n f0"), code...), "return 0")
}

// files is the bytes of several files, of which most may be bound.
func (c *chance) files(t *testing.T) [][]byte {
	many := 1 + c.next(3)
	var l [][]byte
	for i := range many {
		b := written(t, c.text(i, many))
		if c.seldom(30) {
			b[c.next(len(b))] ^= 1 << c.next(8)
		}
		l = append(l, b)
	}
	if c.seldom(20) {
		l = append(l, slices.Repeat([][]byte{file.Put(api.Object{})}, c.next(8))...)
	}
	return l
}

// bindOracle is what is told of files ahead of what Check tells.
func bindOracle(files [][]byte, entry string) (api.Program, api.Reject) {
	if len(files) < 1 || len(files) > 6 {
		return api.Program{}, nowhere(api.ErrMany)
	}
	var l []api.Object
	for at, b := range files {
		o, e, item := file.Read(b)
		if e != api.OK {
			return api.Program{}, api.Reject{Why: e, File: at, Item: item}
		}
		l = append(l, o)
	}
	return bind.Bind(l, entry)
}

func readOracle(files [][]byte, entry string) (api.Program, api.Reject) {
	p, r := bindOracle(files, entry)
	if r.Why != api.OK {
		return p, r
	}
	if r = chain.Check(p, chain.Nosplit(p)); r.Why != api.OK {
		return api.Program{}, r
	}
	if r = farOracle(p); r.Why != api.OK {
		return api.Program{}, r
	}
	return p, r
}

// P30.2: many files, held against the oracle; each error comes, and no file is changed.
func TestReadOracle(t *testing.T) {
	c := chance(302)
	seen := map[api.Errno]int{}
	for range 1000 {
		files := c.files(t)
		was := fmt.Sprint(files)
		for _, entry := range []string{"f0", "f4", one(&c, "", "f", "d0", "F0")} {
			want, wantR := readOracle(files, entry)
			if p, r := accept.Read(files, entry); r != wantR || fmt.Sprint(p) != fmt.Sprint(want) {
				t.Fatalf("Read(%s, %q) = %s, %+v; want %s, %+v", told(files), entry, sketch(p), r, sketch(want), wantR)
			}
			seen[wantR.Why]++
		}
		if now := fmt.Sprint(files); now != was {
			t.Fatalf("%s came to be %s", was, now)
		}
	}
	for _, e := range []api.Errno{api.OK, api.ErrMany, api.ErrSum, api.ErrTwice, api.ErrNone, api.ErrEntry, api.ErrCycle, api.ErrDeep, api.ErrFar} {
		if seen[e] < 30 {
			t.Errorf("%v comes %d times", e, seen[e])
		}
	}
}

// tooDeep goes all ways on from a call of the function at, ahead of which so many words were written without a check, and tells whether one of them writes more than may be; of a way that leads back, each round writes more.
func tooDeep(p api.Program, graph [][]int, at, words int) bool {
	words++ // where its caller goes on
	f := p.Funs[at].F
	if !f.Nosplit {
		return words+1 > 56
	}
	words += max(1, len(f.Kinds)+f.Pad)
	if words > 56 {
		return true
	}
	for _, to := range graph[at] {
		if tooDeep(p, graph, to, words) {
			return true
		}
	}
	return false
}

// allFit tells whether all ways without a check fit, from the start, and from each function with a check that is called.
func allFit(p api.Program) bool {
	graph := live.Graph(p)
	if tooDeep(p, graph, p.Entry, 0) {
		return false
	}
	for at, is := range live.Called(p) {
		for _, to := range graph[at] {
			if is && !p.Funs[at].F.Nosplit && tooDeep(p, graph, to, 0) {
				return false
			}
		}
	}
	return true
}

// P30.3: files are taken just if they can be bound, no reference is far, and all ways without a check fit.
func TestExact(t *testing.T) {
	c := chance(303)
	seen := map[bool]int{}
	for range 2000 {
		files := c.files(t)
		entry := fmt.Sprint("f", c.next(9))
		p, r := bindOracle(files, entry)
		want := r.Why == api.OK && farOracle(p).Why == api.OK && allFit(p)
		if _, r := accept.Read(files, entry); (r.Why == api.OK) != want {
			t.Fatalf("Read(%s, %q) tells %v; want %v", told(files), entry, r, want)
		}
		if r.Why == api.OK {
			seen[want]++
		}
	}
	if seen[true] < 300 || seen[false] < 300 {
		t.Errorf("%v", seen)
	}
}

// fill writes over all of l, up to its capacity.
func fill[T any](l []T, x T) {
	l = l[:cap(l)]
	for i := range l {
		l[i] = x
	}
}

// spoilAll writes over all of a program's lists.
func spoilAll(p api.Program) {
	for _, f := range p.Funs {
		fill(f.Refs, 77)
		fill(f.F.Kinds, 77)
		fill(f.F.Lines, api.Line{At: 77})
		fill(f.F.Code, api.Instr{Op: 77})
		fill(f.F.Relocs, api.Reloc{At: 77})
	}
	for _, d := range p.Dats {
		fill(d.Refs, 77)
		fill(d.D.Words, 77)
		fill(d.D.Relocs, api.Reloc{At: 77})
	}
	fill(p.Funs, api.Fun{})
	fill(p.Dats, api.Dat{})
}

// The rules: what is answered shares no memory with the files, or with a later answer; files are not changed, or kept.
func TestShares(t *testing.T) {
	files := [][]byte{
		written(t, "extern proc g f1r / proc main f0 / pad 3 / range 1 3 / slots n f1r / line 3 / call 0 @g / defer 0 @q short / return 0 / proc q f0 nosplit / return 0"),
		written(t, "data d n / word 5 / word -6 / data e f1r local / word @g / proc g f1r / slots n f1r / pick 1 0 @e / load 0 0 @d / return 0"),
	}
	was := fmt.Sprint(files)
	first, _ := accept.Read(files, "main")
	second, r := accept.Read(files, "main")
	want := fmt.Sprint(second)
	if r.Why != api.OK || len(second.Funs) != 3 || fmt.Sprint(first) != want {
		t.Fatalf("%v, %v, %v", first, second, r)
	}
	accept.Far(second)
	accept.Check(second)
	spoilAll(first)
	third, _ := accept.Read(files, "main")
	if fmt.Sprint(second) != want || fmt.Sprint(third) != want || fmt.Sprint(files) != was {
		t.Errorf("%v, %v; want %s", second, third, want)
	}
	for i, b := range files {
		fill(b, 77)
		files[i] = nil
	}
	if fmt.Sprint(second) != want || fmt.Sprint(third) != want {
		t.Errorf("%v, %v; want %s", second, third, want)
	}
}

// P7: Read ends at bytes of all sorts, also such as have a sum that is right, and answers a program just where there is no error.
func TestReadEnds(t *testing.T) {
	c := chance(307)
	b := written(t, far()+" / proc g f1r nosplit / slots n f1r / func 1 @g / call 0 @g / return 0 / data d f1r / word @g short / word nil")
	hold := func(files ...[]byte) {
		t.Helper()
		want, wantR := readOracle(files, "main")
		if p, r := accept.Read(files, "main"); r != wantR || fmt.Sprint(p) != fmt.Sprint(want) || r.Why != api.OK && !reflect.DeepEqual(p, api.Program{}) {
			t.Errorf("Read(%s) = %s, %+v; want %s, %+v", told(files), sketch(p), r, sketch(want), wantR)
		}
	}
	for n := range b {
		hold(b[:n])
		hold(sum.Seal(b[:n]))
		hold(written(t, good), b[n:])
	}
	for range 4000 {
		x := slices.Clone(b[:len(b)-4])
		for range 1 + c.next(3) {
			x[c.next(len(x))] = byte(one(&c, 0, 1, 2, 19, 64, 127, 128, 255, c.next(256)))
		}
		hold(sum.Seal(x))
		noise := make([]byte, c.next(60))
		for i := range noise {
			noise[i] = byte(c.next(256))
		}
		hold(noise)
		hold(sum.Seal(append([]byte("SHL1"), noise...)), nil)
	}
}

// P7: Far and Check end at programs of all sorts.
func TestEnds(t *testing.T) {
	operations := append(numbers(), api.OpLoad, api.OpStore, api.OpFunc, api.OpPick, api.OpCall, api.OpVia, api.OpDefer, api.OpReturn, api.OpDriver, 29)
	for _, op := range operations {
		for _, n := range numbers() {
			f := api.Fun{File: n, Item: n, F: api.Func{Class: n, Kinds: []int{n}, Pad: n, From: n, To: n, Lines: []api.Line{{At: n, Line: n}}, Code: []api.Instr{{Op: op, A: n, B: n, C: n, N: int64(n)}}, Relocs: []api.Reloc{{At: n, Sym: n}, {}, {Wide: true}}}, Refs: []int{n}}
			long, bare := f, f
			long.Refs, bare.Refs = []int{n, n, n}, nil
			d := api.Dat{File: n, Item: n, D: api.Data{Kind: n, Words: []int64{int64(n)}, Relocs: f.F.Relocs}, Refs: []int{n}}
			for _, p := range []api.Program{{Funs: []api.Fun{f}, Entry: n}, {Funs: []api.Fun{f, f}, Dats: []api.Dat{d}}, {Funs: []api.Fun{{}, long}, Dats: []api.Dat{{}, d}, Entry: 1}, {Funs: []api.Fun{bare}, Dats: []api.Dat{{D: d.D}}}, {Dats: []api.Dat{d}, Entry: n}} {
				// None of them has what is far from another one.
				isFar(t, p, api.Reject{})
				checks(t, p, chain.Check(p, chain.Nosplit(p)))
			}
		}
	}
}

// P7: as many functions, data and references as a program may well have.
func TestGreat(t *testing.T) {
	const many = 1 << 15
	funs, dats := make([]api.Fun, many), make([]api.Dat, many)
	for i := range many {
		funs[i], dats[i] = fun(0, does{api.OpLoad, many - 1, 16}), dat(0, does{0, many/3 - 1, 16})
	}
	p := program(funs, dats...)
	// A function takes three places, and data take two.
	isFar(t, p, api.Reject{})
	p.Dats[many-1].Refs[0] = many - 1
	isFar(t, p, atDat(p, many-1))
	p.Funs[many-1] = fun(0, does{api.OpCall, many - 1, 16})
	isFar(t, p, api.Reject{Why: api.ErrFar})
}
