package asm

import (
	"slices"
	"strings"

	"sheerleg/api"
	"sheerleg/line"
	"sheerleg/op"
	"sheerleg/sig"
)

const (
	none        = -1 // the Def of what another file defines
	needNothing = 0  // what op.Need tells of operations that refer to nothing

	// What lines of declarations begin with.
	extern = "extern"
	ofData = "data"
	ofFunc = "proc"

	// What words begin with.
	remark = "#"
	target = "@"
)

// What the lines behind may be of; the parts of a function in the order in which they come.
const (
	outside = iota // behind no declaration of an item
	inData
	inFunc
	atPad
	atRange
	atSlots
	inCode
)

// reader reads a text's lines. Behind one that is wrong it reads no more.
type reader struct {
	symbols map[string]int // by their names
	o       api.Object
	part    int
}

func newReader(names []string) *reader {
	r := &reader{symbols: map[string]int{}}
	for sym, name := range names {
		// Of several of one name the first one is meant.
		if _, ok := r.symbols[name]; !ok {
			r.symbols[name] = sym
		}
	}
	return r
}

// start is what a line begins with, and how all its words are read then.
type start struct {
	word string
	read func(r *reader, words []string) api.Errno
}

// starts are those of all lines but the instructions'.
func starts() []start {
	return []start{
		{extern, (*reader).readExtern},
		{ofData, (*reader).readData},
		{ofFunc, (*reader).readFunc},
		{"word", (*reader).readWord},
		{"pad", (*reader).readPad},
		{"range", (*reader).readRange},
		{"slots", (*reader).readSlots},
		{"line", (*reader).readLine},
	}
}

func (r *reader) read(words []string) api.Errno {
	if len(words) == 0 || strings.HasPrefix(words[0], remark) {
		return api.OK
	}
	for _, s := range starts() {
		if s.word == words[0] {
			return s.read(r, words)
		}
	}
	return r.readInstr(words)
}

func (r *reader) readExtern(words []string) api.Errno {
	s, more, ok := symbol(words[1:])
	if !ok || len(more) > 0 {
		return api.ErrForm
	}
	s.Def = none
	r.declare(s, outside)
	return api.OK
}

func (r *reader) readData(words []string) api.Errno {
	s, more, ok := symbol(words)
	s.Local, more = taken("local", more)
	if !ok || len(more) > 0 {
		return api.ErrForm
	}
	s.Def = len(r.o.Datas)
	r.o.Datas = append(r.o.Datas, api.Data{Kind: s.Kind})
	r.declare(s, inData)
	return api.OK
}

func (r *reader) readFunc(words []string) api.Errno {
	s, more, ok := symbol(words)
	s.Local, more = taken("local", more)
	nosplit, more := taken("nosplit", more)
	if !ok || len(more) > 0 {
		return api.ErrForm
	}
	s.Def = len(r.o.Funcs)
	r.o.Funcs = append(r.o.Funcs, api.Func{Class: s.Kind, Nosplit: nosplit})
	r.declare(s, inFunc)
	return api.OK
}

// symbol is what a sort's word, a name and a kind's text say, and the words behind; false: they say none.
func symbol(words []string) (api.Symbol, []string, bool) {
	if len(words) < 3 {
		return api.Symbol{}, nil, false
	}
	s := api.Symbol{Name: words[1]}
	kind, ok := sig.Parse(words[2])
	switch words[0] {
	case ofData:
		s.Sort, s.Kind = api.SymData, kind
	case ofFunc:
		s.Sort = api.SymFunc
		s.Kind, ok = sig.Class(kind) // of no kind's text that of numbers, which has no class either
	default:
		ok = false
	}
	return s, words[3:], ok
}

// taken tells whether the word stands first, and what is left behind it.
func taken(word string, words []string) (bool, []string) {
	if len(words) == 0 || words[0] != word {
		return false, words
	}
	return true, words[1:]
}

func (r *reader) declare(s api.Symbol, part int) {
	r.o.Symbols = append(r.o.Symbols, s)
	r.part = part
}

func (r *reader) readWord(words []string) api.Errno {
	if r.part != inData {
		return api.ErrForm
	}
	d := &r.o.Datas[len(r.o.Datas)-1]
	if d.Kind == api.Number {
		return addNumber(d, words[1:])
	}
	return r.addFunc(d, words[1:])
}

func addNumber(d *api.Data, words []string) api.Errno {
	if len(words) != 1 {
		return api.ErrForm
	}
	n, ok := line.Number(words[0])
	if !ok {
		return api.ErrForm
	}
	d.Words = append(d.Words, n)
	return api.OK
}

func (r *reader) addFunc(d *api.Data, words []string) api.Errno {
	if !slices.Equal(words, []string{"nil"}) {
		x, e := r.reference(words, len(d.Words))
		if e != api.OK {
			return e
		}
		d.Relocs = append(d.Relocs, x)
	}
	d.Words = append(d.Words, 0)
	return api.OK
}

// reference is that of what is at the place at, of all these words.
func (r *reader) reference(words []string, at int) (api.Reloc, api.Errno) {
	if len(words) == 0 {
		return api.Reloc{}, api.ErrForm
	}
	name, ok := strings.CutPrefix(words[0], target)
	short, more := taken("short", words[1:])
	if !ok || len(more) > 0 {
		return api.Reloc{}, api.ErrForm
	}
	sym, ok := r.symbols[name]
	if !ok {
		return api.Reloc{}, api.ErrNone
	}
	return api.Reloc{At: at, Sym: sym, Wide: !short}, api.OK
}

// enter goes on to a part of the function; false: it may not come here. Code alone goes on and on.
func (r *reader) enter(part int) bool {
	if r.part < inFunc || r.part >= part && part != inCode {
		return false
	}
	r.part = part
	return true
}

// function is the one whose parts are read.
func (r *reader) function() *api.Func {
	return &r.o.Funcs[len(r.o.Funcs)-1]
}

func (r *reader) readPad(words []string) api.Errno {
	l, ok := decimals(words[1:], 1)
	if !ok || !r.enter(atPad) {
		return api.ErrForm
	}
	r.function().Pad = l[0]
	return api.OK
}

func (r *reader) readRange(words []string) api.Errno {
	l, ok := decimals(words[1:], 2)
	if !ok || !r.enter(atRange) {
		return api.ErrForm
	}
	f := r.function()
	f.From, f.To = l[0], l[1]
	return api.OK
}

func (r *reader) readSlots(words []string) api.Errno {
	l, ok := all(words[1:], sig.Parse)
	if !ok || len(l) == 0 || !r.enter(atSlots) {
		return api.ErrForm
	}
	r.function().Kinds = l
	return api.OK
}

func (r *reader) readLine(words []string) api.Errno {
	l, ok := decimals(words[1:], 1)
	if !ok || !r.enter(inCode) {
		return api.ErrForm
	}
	f := r.function()
	f.Lines = append(f.Lines, api.Line{At: len(f.Code), Line: l[0]})
	return api.OK
}

// decimals is the numbers of these words; false: they are not so many, or one is none.
func decimals(words []string, many int) ([]int, bool) {
	if len(words) != many {
		return nil, false
	}
	return all(words, decimal)
}

func decimal(word string) (int, bool) {
	n, ok := line.Number(word)
	return int(n), ok
}

// all is what each of the words says; false: one says nothing.
func all(words []string, parse func(word string) (int, bool)) ([]int, bool) {
	var l []int
	for _, word := range words {
		n, ok := parse(word)
		if !ok {
			return nil, false
		}
		l = append(l, n)
	}
	return l, true
}

func (r *reader) readInstr(words []string) api.Errno {
	if !r.enter(inCode) {
		return api.ErrForm
	}
	if op.Need(op.Find(words[0])) == needNothing {
		return r.addInstr(words)
	}
	own, behind := apart(words)
	at := len(r.function().Code)
	if e := r.addInstr(own); e != api.OK {
		return e
	}
	x, e := r.reference(behind, at)
	if e != api.OK {
		return e
	}
	f := r.function()
	f.Relocs = append(f.Relocs, x)
	return api.OK
}

// apart is an instruction's own words, and those of its reference.
func apart(words []string) ([]string, []string) {
	at := 1
	for at < len(words) && !strings.HasPrefix(words[at], target) {
		at++
	}
	return words[:at], words[at:]
}

func (r *reader) addInstr(words []string) api.Errno {
	x, e := line.Parse(line.Join(words...))
	if e != api.OK {
		return e
	}
	f := r.function()
	f.Code = append(f.Code, x)
	return api.OK
}
