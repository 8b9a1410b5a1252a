package image_test

import (
	"slices"
	"strings"
	"testing"

	"sheerleg/api"
	"sheerleg/asm"
	"sheerleg/bind"
	"sheerleg/elide"
	"sheerleg/image"
	"sheerleg/patch"
	"sheerleg/place"
	"sheerleg/prologue"
	tables "sheerleg/table"
)

// chance gives numbers that look as if they hung on nothing, always the same ones.
type chance uint64

func (c *chance) next(n int) int {
	*c = *c*6364136223846793005 + 1442695040888963407
	return int(*c >> 33 % chance(n))
}

// one is one of the numbers.
func (c *chance) one(l ...int) int {
	return l[c.next(len(l))]
}

// some is a program of a few functions and data.
func (c *chance) some() api.Program {
	var p api.Program
	for at := range c.next(7) {
		f := api.Fun{File: 100 - at, Item: at, F: api.Func{Class: c.next(8), Pad: c.one(0, 3, 70), Kinds: make([]int, c.next(5)), From: c.next(6) - 1, To: c.next(6)}}
		for range c.next(6) {
			f.F.Code = append(f.F.Code, api.Instr{Op: c.next(30), A: c.next(16), B: c.next(16), C: c.next(8), N: int64(c.next(100) - 50)})
			f.Refs = append(f.Refs, c.next(8)-1)
		}
		if c.next(2) == 0 {
			f.F.Lines = []api.Line{{At: 0, Line: c.next(3)}, {At: 1 + c.next(3), Line: c.next(3)}}
		}
		p.Funs = append(p.Funs, f)
	}
	for range c.next(5) {
		d := api.Dat{}
		for range c.next(6) {
			d.D.Words = append(d.D.Words, int64(c.next(100)-50))
			d.Refs = append(d.Refs, c.next(8)-1)
		}
		p.Dats = append(p.Dats, d)
	}
	p.Entry = c.next(len(p.Funs)+2) - 1
	return p
}

// plan is any, perhaps of fewer functions, or of more.
func (c *chance) plan(p api.Program) api.Plan {
	many := func() int { return max(0, len(p.Funs)+c.one(0, 0, 0, -1, -2, 1, 5)) }
	plan := api.Plan{Kept: make([]bool, many()), Checks: make([]int, many())}
	for i := range plan.Kept {
		plan.Kept[i] = c.next(4) > 0
	}
	for i := range plan.Checks {
		plan.Checks[i] = c.next(4)
	}
	return plan
}

// P34.1, P34.2: what is made has what the layers below tell, and is whole just if the entry is kept.
func TestMany(t *testing.T) {
	c := chance(34)
	seen := map[api.Errno]int{}
	for range 20000 {
		p := c.some()
		plan := c.plan(p)
		want := api.Image{Code: patch.Code(p, plan), Words: patch.Words(p, plan), Fns: place.Fns(p, plan), Runs: tables.Make(p, plan), Entry: -1}
		e := api.ErrEntry
		if p.Entry >= 0 && p.Entry < len(p.Funs) && p.Entry < len(plan.Kept) && plan.Kept[p.Entry] {
			want.Entry, e = place.Starts(p, plan)[p.Entry], api.OK
		}
		made(t, p, plan, want)
		checked(t, want, e)
		if t.Failed() {
			return
		}
		seen[e]++
	}
	if seen[api.OK] < 5000 || seen[api.ErrEntry] < 5000 {
		t.Errorf("%v", seen)
	}
}

// opsOf are the letters of what stands from one place to another.
func opsOf(m api.Image, from, to int) string {
	var b strings.Builder
	for _, x := range m.Code[from:to] {
		switch x.Op {
		case 25:
			b.WriteByte('c')
		case 26:
			b.WriteByte('e')
		default:
			b.WriteByte('?')
		}
	}
	return b.String()
}

// placesOf are all places of all functions, one behind the other; nothing, if one may not be.
func placesOf(m api.Image) ([]int, bool) {
	var l []int
	for _, f := range m.Fns {
		if f.Start < 0 || !(f.Start < f.Body && f.Body <= f.End) || f.Frame < 0 {
			return nil, false
		}
		for n := f.Start; n < f.End; n++ {
			l = append(l, n)
		}
	}
	return l, true
}

// runsError is what is wrong of the table: places are laid down one by one.
func runsError(m api.Image) api.Errno {
	places := make([]int, len(m.Code))
	ahead := -1
	for i, run := range m.Runs {
		if i == 0 && run.From != 0 || run.From <= ahead || run.From >= len(places) {
			return api.ErrRange
		}
		ahead = run.From
		places[run.From]++
	}
	if len(m.Runs) == 0 {
		return api.ErrRange
	}
	for i := range m.Runs[1:] {
		if m.Runs[i].Row == m.Runs[i+1].Row {
			return api.ErrTwice
		}
	}
	return api.OK
}

// oracle is what Check tells of a little image.
func oracle(m api.Image) api.Errno {
	if len(m.Code) < 2 || m.Code[0] != (api.Instr{Op: 27}) || m.Code[1] != (api.Instr{Op: 28}) {
		return api.ErrForm
	}
	var want []int
	for n := 2; n < len(m.Code); n++ {
		want = append(want, n)
	}
	if l, ok := placesOf(m); !ok || !slices.Equal(l, want) {
		return api.ErrRange
	}
	entries := map[int]int{}
	for _, f := range m.Fns {
		entries[f.Start]++
		if s := opsOf(m, f.Start, f.Body); s != "e" && s != "ce" {
			return api.ErrKind
		}
	}
	if e := runsError(m); e != api.OK {
		return e
	}
	if entries[m.Entry] == 0 {
		return api.ErrEntry
	}
	return api.OK
}

// turn turns one thing of m, mostly by little.
func (c *chance) turn(m *api.Image) {
	by := c.one(-1, 1, 1, 2, -2, 9)
	switch kind := c.next(9); {
	case kind == 0:
		m.Entry += by
	case kind == 1 && len(m.Code) > 0:
		x := &m.Code[c.next(len(m.Code))]
		*x = []api.Instr{{Op: 24}, {Op: 25}, {Op: 26}, {Op: 27}, {Op: 28, A: by}, {Op: 28}}[c.next(6)]
	case kind == 2 && len(m.Fns) > 0:
		f := &m.Fns[c.next(len(m.Fns))]
		*[]*int{&f.Start, &f.Body, &f.End, &f.Frame}[c.next(4)] += by
	case kind == 3 && len(m.Fns) > 1:
		// Both sides of a seam, so that there is neither gap nor overlap.
		n := 1 + c.next(len(m.Fns)-1)
		m.Fns[n].Start += by
		m.Fns[n-1].End += by
	case kind == 4 && len(m.Runs) > 0:
		m.Runs[c.next(len(m.Runs))].From += by
	case kind == 5 && len(m.Runs) > 0:
		m.Runs[c.next(len(m.Runs))].Row = m.Runs[c.next(len(m.Runs))].Row
	case kind == 6 && len(m.Fns) > 0:
		n := c.next(len(m.Fns))
		m.Fns = slices.Delete(m.Fns, n, n+1)
	case kind == 7 && len(m.Runs) > 0:
		n := c.next(len(m.Runs))
		m.Runs = slices.Delete(m.Runs, n, n+1)
	case kind == 8:
		m.Code = m.Code[:c.next(len(m.Code)+1)]
	}
}

// P34.2: images that are made, and then turned, held against the oracle.
func TestCheckMany(t *testing.T) {
	c := chance(342)
	seen := map[api.Errno]int{}
	for range 100000 {
		p := c.some()
		if len(p.Funs) == 0 {
			continue
		}
		p.Entry = c.next(len(p.Funs))
		plan := prologue.Full(p)
		plan.Checks = c.plan(p).Checks
		m := image.Make(p, plan)
		for range c.next(4) {
			c.turn(&m)
		}
		want := oracle(m)
		checked(t, m, want)
		if t.Failed() {
			return
		}
		seen[want]++
	}
	for _, e := range []api.Errno{api.OK, api.ErrForm, api.ErrRange, api.ErrKind, api.ErrTwice, api.ErrEntry} {
		if seen[e] < 1000 {
			t.Errorf("%v: %d", e, seen[e])
		}
	}
}

// name is that of one of a file's functions but main.
func (c *chance) name(suffix string) string {
	return []string{"a", "b", "c"}[c.next(3)] + suffix
}

// text is that of a module that may be, whose names have that suffix, and whose main is local, or not.
func (c *chance) text(suffix, scope string) string {
	s := "proc main f0" + scope + " / slots n"
	for range c.next(3) {
		s += " / call 0 @" + c.name(suffix)
	}
	s += " / return 0"
	for _, name := range []string{"a", "b", "c"} {
		s += " / proc " + name + suffix + " f0" + []string{"", " nosplit"}[c.next(4)/3] + []string{"", " / pad 9", " / pad 70"}[c.next(3)] + " / range 2 3 / slots n f0"
		s += " / line " + []string{"1", "2", "9"}[c.next(3)]
		s += " / " + []string{"out 0", "call 0 @" + c.name(suffix), "func 1 @" + c.name(suffix)}[c.next(3)]
		s += " / " + []string{"in 0", "line 3 / in 0", "defer 0 @" + c.name(suffix), "pick 1 0 @t" + suffix}[c.next(4)] + " / return 0"
	}
	return s + " / data t" + suffix + " f0 / word nil / word @" + c.name(suffix)
}

// P34.4: what is made of a program that is bound, with a plan in which the entry is kept, is whole; and At and Fn tell of it what layers 29 and 33 do.
func TestFollows(t *testing.T) {
	c := chance(344)
	for range 2000 {
		// The first file's main is not the entry.
		texts := []string{c.text("", " local"), c.text("2", "")}
		var l []api.Object
		for _, s := range texts {
			o, at, e := asm.Parse(strings.ReplaceAll(s, " / ", "\n") + "\n")
			if e != api.OK {
				t.Fatalf("%v at %d of %s", e, at, s)
			}
			l = append(l, o)
		}
		p, r := bind.Bind(l, "main")
		if r.Why != api.OK {
			t.Fatalf("%v of %s", r, texts)
		}
		mixed := c.plan(p)
		mixed.Kept = append(slices.Repeat([]bool{false}, p.Entry), true)
		for at := range p.Funs {
			if at >= len(mixed.Kept) {
				mixed.Kept = append(mixed.Kept, c.next(2) == 0)
			}
		}
		for _, plan := range []api.Plan{prologue.Full(p), elide.Plan(p), mixed} {
			m := image.Make(p, plan)
			checked(t, m, api.OK)
			told(t, m, tables.Rows(p, plan))
			if t.Failed() {
				return
			}
		}
	}
}

// P34.4: of a program of as many functions, instructions, lines and words as there may be.
func TestFollowsGreatest(t *testing.T) {
	full := api.Func{Pad: api.MaxPad, From: 1, To: 32, Code: slices.Repeat([]api.Instr{{Op: api.OpReturn}}, api.MaxCode)}
	full.Kinds = make([]int, api.MaxSlots)
	for i := range api.MaxLines {
		full.Lines = append(full.Lines, api.Line{At: 4 * i, Line: api.MaxLine - i})
	}
	var l []api.Object
	for file := range api.MaxFiles {
		var o api.Object
		for at := range api.MaxFuncs {
			name := "main"
			if file+at > 0 {
				name = "f" + string(rune('a'+file)) + string(rune('a'+at))
			}
			o.Symbols = append(o.Symbols, api.Symbol{Name: name, Sort: api.SymFunc, Def: at})
			o.Funcs = append(o.Funcs, full)
		}
		for at := range api.MaxDatas {
			o.Symbols = append(o.Symbols, api.Symbol{Name: "d" + string(rune('a'+file)) + string(rune('a'+at)), Sort: api.SymData, Def: at})
			o.Datas = append(o.Datas, api.Data{Words: make([]int64, api.MaxWords)})
		}
		l = append(l, o)
	}
	p, r := bind.Bind(l, "main")
	if r.Why != api.OK {
		t.Fatal(r)
	}
	m := image.Make(p, prologue.Full(p))
	checked(t, m, api.OK)
	if len(m.Fns) != 72 || len(m.Code) != 2+72*66 || len(m.Words) != 48*33 {
		t.Errorf("%d functions, %d instructions, %d words", len(m.Fns), len(m.Code), len(m.Words))
	}
	told(t, m, tables.Rows(p, prologue.Full(p)))
}

// told holds At and Fn to what they tell of an image that is whole.
func told(t *testing.T, m api.Image, rows []api.Row) {
	t.Helper()
	if len(rows) != len(m.Code) {
		t.Fatalf("%d rows of %d places", len(rows), len(m.Code))
	}
	for pc, row := range rows {
		if got := image.At(m, pc); got != row {
			t.Errorf("At(%d) = %v; want %v", pc, got, row)
		}
		if got := image.Fn(m, pc); got != row.Fn-1 {
			t.Errorf("Fn(%d) = %d; want %d", pc, got, row.Fn-1)
		}
		number, ahead, ok := tables.Source(m.Fns, pc)
		if own := row.Fn > 0 && pc >= m.Fns[row.Fn-1].Body; ok != own || ok && (number != row.Fn-1 || ahead != pc-m.Fns[number].Body) {
			t.Errorf("Source(%d) = %d, %d, %v; want %d", pc, number, ahead, ok, row.Fn-1)
		}
	}
}

// P7: each call ends at programs, plans, images, and places of all sorts.
func TestEnds(t *testing.T) {
	for _, n := range numbers() {
		x := api.Instr{Op: n, A: n, B: n, C: n, N: int64(n)}
		f := api.Fun{File: n, Item: n, F: api.Func{Class: n, Kinds: []int{n}, Pad: n, From: n, To: -n, Lines: []api.Line{{At: n, Line: n}}, Code: []api.Instr{x, {Op: api.OpCall}, {Op: api.OpPick}}}, Refs: []int{n, n, n}}
		p := api.Program{Funs: []api.Fun{f, {}, f}, Dats: []api.Dat{{D: api.Data{Kind: n, Words: []int64{int64(n), 5}}, Refs: []int{n}}, {}}, Entry: n}
		for _, plan := range []api.Plan{{}, keeps("k"), keeps("kk", n, n), keeps("kkk", n, 0, n), keeps("kkkkkkk", n, n, n, n, n), keeps("-k", n)} {
			m := image.Make(p, plan)
			if e := image.Check(m); m.Entry < 0 && e != api.ErrEntry || m.Entry >= 0 && e != api.OK {
				t.Errorf("%v of the entry %d with %+v", e, m.Entry, plan)
			}
		}
		for _, k := range numbers() {
			for _, many := range []int{0, 1, 2, 3, 9} {
				m := api.Image{Code: slices.Repeat([]api.Instr{x}, many), Words: []int64{int64(n)}, Fns: []api.Fn{{File: n, Item: n, Start: k, Body: n, End: n, Frame: k}, {Start: n, Body: k, End: k, Frame: n}}, Runs: []api.Run{{From: k}, {From: n}}, Entry: k}
				if e := image.Check(m); e != api.ErrForm {
					t.Errorf("Check(%+v) = %v", m, e)
				}
				ends := append(code("bd"), m.Code...)
				m.Code = ends
				if e := image.Check(m); e == api.OK || e == api.ErrForm {
					t.Errorf("Check(%+v) = %v", m, e)
				}
				for _, pc := range numbers() {
					image.At(m, pc)
					image.Fn(m, pc)
				}
			}
		}
	}
}

// P7: many functions, and words.
func TestGreat(t *testing.T) {
	const many = 1 << 17
	p := api.Program{Funs: make([]api.Fun, many), Dats: make([]api.Dat, many), Entry: many - 1}
	plan := api.Plan{Kept: slices.Repeat([]bool{true}, many), Checks: []int{1}}
	m := image.Make(p, plan)
	if len(m.Code) != many+3 || len(m.Words) != many || len(m.Fns) != many || len(m.Runs) != many+1 || m.Entry != many+2 {
		t.Errorf("%d, %d, %d, %d, %d", len(m.Code), len(m.Words), len(m.Fns), len(m.Runs), m.Entry)
	}
	checked(t, m, api.ErrMany)
	if row, n := image.At(m, many+2), image.Fn(m, many+2); row.Fn != many || n != many-1 {
		t.Errorf("%v, %d", row, n)
	}
	// No more than 4096 runs are told of a table.
	p.Funs, p.Dats, p.Entry = p.Funs[:4095], nil, 0
	checked(t, image.Make(p, plan), api.OK)
	p.Funs = p.Funs[:4096]
	checked(t, image.Make(p, plan), api.ErrMany)
}
