package image_test

import (
	"math"
	"slices"
	"testing"

	"sheerleg/api"
)

// ops are the operations that letters stand for.
var ops = map[rune]int{'b': api.OpBottom, 'd': api.OpDriver, 'c': api.OpCheck, 'e': api.OpEnter, 'r': api.OpReturn, 'n': api.OpNop, '?': 99}

// code has an instruction of each letter.
func code(letters string) []api.Instr {
	var l []api.Instr
	for _, letter := range letters {
		l = append(l, api.Instr{Op: ops[letter]})
	}
	return l
}

// table is runs from these places, no two of which are alike.
func table(places ...int) []api.Run {
	var l []api.Run
	for i, place := range places {
		l = append(l, from(place, i, 0, false, 0))
	}
	return l
}

// fns are functions of which each starts where the one ahead ends: of each its body, and its end.
func fns(places ...int) []api.Fn {
	var l []api.Fn
	start := 2
	for i := 0; i < len(places); i += 2 {
		l = append(l, api.Fn{Start: start, Body: places[i], End: places[i+1]})
		start = places[i+1]
	}
	return l
}

// whole is an image with nothing wrong: at 2 a function with a check, at 5 one without, at 8 one of no instruction.
func whole() api.Image {
	return api.Image{Code: code("bdcernenrce"), Words: []int64{1, 5}, Fns: fns(4, 6, 7, 9, 11, 11), Runs: table(0, 2, 5, 8), Entry: 6}
}

// wrong is one thing that Check tells: of which rank that is, and what makes an image so, whatever else is wrong.
type wrong struct {
	name string
	rank int
	e    api.Errno
	turn func(m *api.Image)
}

// instr turns the instruction at the place.
func instr(at int, turn func(x *api.Instr)) func(m *api.Image) {
	return func(m *api.Image) { turn(&m.Code[at]) }
}

// function turns the function of the number, if another turn has not taken it away.
func function(at int, turn func(f *api.Fn)) func(m *api.Image) {
	return func(m *api.Image) {
		if 0 <= at && at < len(m.Fns) {
			turn(&m.Fns[at])
		}
	}
}

// wrongs are all of them.
func wrongs() []wrong {
	return slices.Concat(wrongSizes(), wrongEnds(), wrongFns(), wrongHeads(), wrongRuns(), wrongEntries())
}

func wrongSizes() []wrong {
	return []wrong{
		{"too much code", 1, api.ErrMany, func(m *api.Image) {
			m.Code = append(m.Code, make([]api.Instr, 65536-len(m.Code))...)
			function(len(m.Fns)-1, func(f *api.Fn) { f.End += 65536 - 11 })(m)
		}},
		{"too many words", 1, api.ErrMany, func(m *api.Image) { m.Words = make([]int64, 65536) }},
	}
}

func wrongEnds() []wrong {
	var l []wrong
	for _, at := range []int{0, 1} {
		l = append(l,
			wrong{"a driver, or a bottom, in the other's place", 2, api.ErrForm, instr(at, func(x *api.Instr) { x.Op = []int{api.OpDriver, api.OpBottom}[at] })},
			wrong{"no operation", 2, api.ErrForm, instr(at, func(x *api.Instr) { x.Op = 0 })},
			wrong{"A", 2, api.ErrForm, instr(at, func(x *api.Instr) { x.A = 1 })},
			wrong{"B", 2, api.ErrForm, instr(at, func(x *api.Instr) { x.B = -1 })},
			wrong{"C", 2, api.ErrForm, instr(at, func(x *api.Instr) { x.C = math.MaxInt })},
			wrong{"N", 2, api.ErrForm, instr(at, func(x *api.Instr) { x.N = math.MinInt64 })})
	}
	return l
}

func wrongFns() []wrong {
	return []wrong{
		{"a gap ahead of the first", 3, api.ErrRange, function(0, func(f *api.Fn) { f.Start = 3 })},
		{"an overlap with what ends runs", 3, api.ErrRange, function(0, func(f *api.Fn) { f.Start = 1 })},
		{"a gap ahead of one", 3, api.ErrRange, function(1, func(f *api.Fn) { f.Start++; f.Body++ })},
		{"a gap behind one", 3, api.ErrRange, function(0, func(f *api.Fn) { f.End-- })},
		{"an overlap ahead of one", 3, api.ErrRange, function(1, func(f *api.Fn) { f.Start-- })},
		{"an overlap behind one", 3, api.ErrRange, function(0, func(f *api.Fn) { f.End++ })},
		{"a gap behind the last", 3, api.ErrRange, function(2, func(f *api.Fn) { f.Body--; f.End-- })},
		{"one beyond the end", 3, api.ErrRange, function(2, func(f *api.Fn) { f.End++ })},
		{"one far beyond the end", 3, api.ErrRange, function(2, func(f *api.Fn) { f.Body, f.End = math.MaxInt, math.MaxInt })},
		{"a body at the start", 3, api.ErrRange, function(1, func(f *api.Fn) { f.Body = f.Start })},
		{"a body ahead of the start", 3, api.ErrRange, function(1, func(f *api.Fn) { f.Body = f.Start - 1 })},
		{"the least body", 3, api.ErrRange, function(0, func(f *api.Fn) { f.Body = math.MinInt })},
		{"a body above the end", 3, api.ErrRange, function(1, func(f *api.Fn) { f.Body = f.End + 1 })},
		{"the greatest body", 3, api.ErrRange, function(0, func(f *api.Fn) { f.Body = math.MaxInt })},
		{"an end ahead of the start", 3, api.ErrRange, function(2, func(f *api.Fn) { f.End = 2 })},
		{"a frame below 0", 3, api.ErrRange, function(0, func(f *api.Fn) { f.Frame = -1 })},
		{"the last frame far below 0", 3, api.ErrRange, function(2, func(f *api.Fn) { f.Frame = math.MinInt })},
		{"two in the other order", 3, api.ErrRange, func(m *api.Image) { m.Fns[0], m.Fns[1] = m.Fns[1], m.Fns[0] }},
		{"one twice", 3, api.ErrRange, func(m *api.Image) { m.Fns = append(m.Fns[:1:1], m.Fns...) }},
		{"one missing", 3, api.ErrRange, func(m *api.Image) { m.Fns = slices.Delete(m.Fns, 1, 2) }},
		{"the last missing", 3, api.ErrRange, func(m *api.Image) { m.Fns = m.Fns[:2] }},
		{"the first missing", 3, api.ErrRange, func(m *api.Image) { m.Fns = m.Fns[1:] }},
		{"none", 3, api.ErrRange, func(m *api.Image) { m.Fns = nil }},
	}
}

func wrongHeads() []wrong {
	return []wrong{
		{"no enter behind a check", 4, api.ErrKind, instr(3, func(x *api.Instr) { x.Op = api.OpNop })},
		{"two checks", 4, api.ErrKind, instr(3, func(x *api.Instr) { x.Op = api.OpCheck })},
		{"two enters", 4, api.ErrKind, instr(2, func(x *api.Instr) { x.Op = api.OpEnter })},
		{"no check ahead of an enter", 4, api.ErrKind, instr(2, func(x *api.Instr) { x.Op = api.OpReturn })},
		{"no enter", 4, api.ErrKind, instr(6, func(x *api.Instr) { x.Op = api.OpOut })},
		{"a check alone", 4, api.ErrKind, instr(6, func(x *api.Instr) { x.Op = api.OpCheck })},
		{"an enter, and a check", 4, api.ErrKind, func(m *api.Image) { m.Code[9].Op, m.Code[10].Op = api.OpEnter, api.OpCheck }},
		{"no operation", 4, api.ErrKind, instr(10, func(x *api.Instr) { x.Op = 0 })},
		{"own code ahead of a later body", 4, api.ErrKind, function(0, func(f *api.Fn) { f.Body++ })},
		{"a body between a check and an enter", 4, api.ErrKind, function(0, func(f *api.Fn) { f.Body-- })},
	}
}

func wrongRuns() []wrong {
	many := make([]int, 4097)
	for i := range many {
		many[i] = i
	}
	return []wrong{
		{"too many runs", 5, api.ErrMany, func(m *api.Image) { m.Runs = table(many...) }},
		{"no runs", 5, api.ErrRange, func(m *api.Image) { m.Runs = nil }},
		{"a first run that is not from the first place on", 5, api.ErrRange, func(m *api.Image) { m.Runs[0].From = 1 }},
		{"a first run from below 0", 5, api.ErrRange, func(m *api.Image) { m.Runs[0].From = -1 }},
		{"runs that do not rise", 5, api.ErrRange, func(m *api.Image) { m.Runs[2].From = 2 }},
		{"a run from behind the code", 5, api.ErrRange, func(m *api.Image) { m.Runs[3].From = len(m.Code) }},
		{"a run from far behind the code", 5, api.ErrRange, func(m *api.Image) { m.Runs[3].From = math.MaxInt }},
		{"runs alike", 5, api.ErrTwice, func(m *api.Image) { m.Runs[2].Row = m.Runs[1].Row }},
	}
}

func wrongEntries() []wrong {
	var l []wrong
	for _, n := range append(numbers(), 5, 10, 11, 12) {
		if n != 2 && n != 9 { // where functions start, but for the one at 6
			l = append(l, wrong{"the entry", 6, api.ErrEntry, func(m *api.Image) { m.Entry = n }})
		}
	}
	return l
}

// P34.2: each of Check's errors alone.
func TestCheckAlone(t *testing.T) {
	checked(t, whole(), api.OK)
	for _, w := range wrongs() {
		m := whole()
		w.turn(&m)
		t.Run(w.name, func(t *testing.T) { checked(t, m, w.e) })
	}
}

// P34.2: each two of Check's errors at once, of which the one named first is told.
func TestCheckTwo(t *testing.T) {
	l := wrongs()
	for _, a := range l {
		for _, b := range l {
			if a.rank >= b.rank {
				continue
			}
			for _, pair := range [][2]wrong{{a, b}, {b, a}} {
				m := whole()
				pair[0].turn(&m)
				pair[1].turn(&m)
				t.Run(a.name+", and "+b.name, func(t *testing.T) { checked(t, m, a.e) })
			}
		}
	}
}

// P34.2: all errors at once, and then from the first one on one less.
func TestCheckAll(t *testing.T) {
	l := []wrong{wrongSizes()[1], wrongEnds()[5], wrongFns()[15], wrongHeads()[4], wrongRuns()[7], wrongEntries()[0]}
	for n, w := range l {
		m := whole()
		for _, x := range l[n:] {
			x.turn(&m)
		}
		checked(t, m, w.e)
	}
}

// P34.2: images of none, one, two, and three instructions.
func TestCheckFew(t *testing.T) {
	for _, x := range []struct {
		letters string
		fns     []api.Fn
		runs    []api.Run
		entry   int
		want    api.Errno
	}{
		{"", nil, nil, 0, api.ErrForm},
		{"", fns(3, 3), table(0), 2, api.ErrForm},
		{"b", nil, table(0), 0, api.ErrForm},
		{"d", nil, table(0), 0, api.ErrForm},
		{"bd", nil, table(0), 0, api.ErrEntry},
		{"bd", nil, table(0), 2, api.ErrEntry},
		{"bd", nil, table(0), -1, api.ErrEntry},
		{"bd", []api.Fn{}, table(0, 1), 2, api.ErrEntry},
		{"bd", nil, nil, 2, api.ErrRange},
		{"bd", nil, table(0, 2), 2, api.ErrRange},
		{"bd", nil, []api.Run{{}, {From: 1}}, 2, api.ErrTwice},
		{"bd", fns(2, 2), table(0), 2, api.ErrRange},
		{"bd", fns(3, 3), table(0), 2, api.ErrRange},
		{"db", nil, table(0), 2, api.ErrForm},
		{"bb", nil, table(0), 2, api.ErrForm},
		{"dd", nil, table(0), 2, api.ErrForm},
		{"bde", nil, table(0), 2, api.ErrRange},
		{"bde", fns(3, 3), table(0), 2, api.OK},
		{"bde", fns(3, 3), table(0, 1, 2), 2, api.OK},
		{"bde", fns(3, 3), table(0), 3, api.ErrEntry},
		{"bde", fns(3, 3), table(0), 0, api.ErrEntry},
		{"bde", fns(3, 3), nil, 2, api.ErrRange},
		{"bde", fns(3, 3), table(0, 3), 2, api.ErrRange},
		{"bdc", fns(3, 3), table(0), 2, api.ErrKind},
		{"bdr", fns(3, 3), table(0), 2, api.ErrKind},
		{"bde", fns(2, 3), table(0), 2, api.ErrRange},
		{"bde", fns(4, 3), table(0), 2, api.ErrRange},
		{"bde", []api.Fn{{Start: 0, Body: 1, End: 3}}, table(0), 0, api.ErrRange},
		{"bbe", fns(3, 3), table(0), 2, api.ErrForm},
	} {
		checked(t, api.Image{Code: code(x.letters), Fns: x.fns, Runs: x.runs, Entry: x.entry}, x.want)
	}
}

// P34.2: what stands ahead of a body, by letters; what stands in it turns nothing.
func TestCheckHeads(t *testing.T) {
	letters := []string{""}
	for n := 0; n < len(letters); n++ {
		if head := letters[n]; len(head) < 4 {
			for letter := range ops {
				letters = append(letters, head+string(letter))
			}
		}
	}
	slices.Sort(letters)
	for _, head := range letters {
		for _, own := range []string{"", "r", "bdcen?"} {
			want := api.ErrKind
			switch head {
			case "":
				want = api.ErrRange
			case "e", "ce":
				want = api.OK
			}
			body := 2 + len(head)
			end := body + len(own)
			// Once it is the only function, once the last one, and once the first one.
			checked(t, api.Image{Code: code("bd" + head + own), Fns: fns(body, end), Runs: table(0), Entry: 2}, want)
			checked(t, api.Image{Code: code("bder" + head + own), Fns: fns(3, 4, body+2, end+2), Runs: table(0), Entry: 2}, want)
			checked(t, api.Image{Code: code("bd" + head + own + "cer"), Fns: fns(body, end, end+2, end+3), Runs: table(0), Entry: 2}, want)
		}
	}
}

// P34.2: operands of what is ahead of a body, and of own code, words, files, items, frames from 0 on, and rows turn nothing.
func TestCheckTurnsNothing(t *testing.T) {
	for _, n := range numbers() {
		m := whole()
		for at := range m.Code {
			if at > 1 {
				m.Code[at].A, m.Code[at].B, m.Code[at].C, m.Code[at].N = n, n, n, int64(n)
			}
		}
		for at := range m.Fns {
			f := &m.Fns[at]
			f.File, f.Item, f.Frame = n, n, max(0, n)
		}
		m.Words[0], m.Words[1] = int64(n), int64(n)
		m.Runs = []api.Run{from(0, n, n, false, n), from(1, n, n, true, n)}
		checked(t, m, api.OK)
		m.Words = nil
		checked(t, m, api.OK)
	}
}

// P34.2: 65535 instructions, and words, are not too many; 65536 are.
func TestCheckMost(t *testing.T) {
	for _, n := range []int{65534, 65535, 65536, 65537, 1 << 20} {
		want := api.OK
		if n > 65535 {
			want = api.ErrMany
		}
		m := whole()
		m.Words = make([]int64, n)
		checked(t, m, want)
		m = whole()
		m.Code = append(m.Code, make([]api.Instr, n-len(m.Code))...)
		m.Fns[2].End = n
		checked(t, m, want)
		m.Runs[3].From = n - 1
		checked(t, m, want)
		m.Words = make([]int64, n)
		checked(t, m, want)
		// Ahead of all that is wrong, too, and also if nothing but its number is right.
		if n > 65535 {
			checked(t, api.Image{Code: make([]api.Instr, n)}, api.ErrMany)
			checked(t, api.Image{Words: make([]int64, n)}, api.ErrMany)
		} else {
			checked(t, api.Image{Code: make([]api.Instr, n)}, api.ErrForm)
			checked(t, api.Image{Words: make([]int64, n)}, api.ErrForm)
		}
	}
}

// P34.2: each place as the entry, of many functions.
func TestCheckEntry(t *testing.T) {
	letters, places, starts := "bd", []int{}, []int{}
	for i := range 40 {
		starts = append(starts, len(letters))
		letters += []string{"e", "ce"}[i%2]
		places = append(places, len(letters))
		letters += "nnn"[:i%4]
		places = append(places, len(letters))
	}
	m := api.Image{Code: code(letters), Fns: fns(places...), Runs: table(0)}
	for m.Entry = -3; m.Entry < len(letters)+3; m.Entry++ {
		if slices.Contains(starts, m.Entry) {
			checked(t, m, api.OK)
		} else {
			checked(t, m, api.ErrEntry)
		}
	}
}
