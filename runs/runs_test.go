package runs_test

import (
	"bytes"
	"fmt"
	"math"
	"slices"
	"strings"
	"testing"

	"sheerleg/api"
	"sheerleg/octet"
	"sheerleg/runs"
)

const most = 4096

// chance gives numbers that look as if they hung on nothing, always the same ones.
type chance uint64

func (c *chance) next(n int) int {
	*c = *c*6364136223846793005 + 1442695040888963407
	return int(*c >> 33 % chance(n))
}

var (
	x = api.Row{Fn: 1, Frame: 70, Defer: true, Line: 12}
	y = api.Row{Fn: 2, Frame: 3, Line: 65535}
	z = api.Row{}
)

// likeX are rows that differ from x by one field.
func likeX() []api.Row {
	fn, frame, pending, line := x, x, x, x
	fn.Fn++
	frame.Frame--
	pending.Defer = false
	line.Line = -line.Line
	return []api.Row{fn, frame, pending, line}
}

// numbers are those that any call may be given.
func numbers() []int {
	return []int{math.MinInt, math.MinInt + 1, -1 << 32, -65536, -4097, -4096, -2, -1, 0, 1, 2, 3, 255, 256, 4095, 4096, 4097, 65535, 65536, 1 << 31, 1 << 32, 1<<32 + 1, math.MaxInt - 1, math.MaxInt}
}

// run is one from there on.
func run(from int, row api.Row) api.Run {
	return api.Run{From: from, Row: row}
}

// some are so many rows of a few kinds, often alike side by side.
func (c *chance) some(n int) []api.Row {
	kinds := append(likeX(), x, y, z, z)
	var rows []api.Row
	for i := range n {
		if i > 0 && c.next(2) == 0 {
			rows = append(rows, rows[i-1])
			continue
		}
		rows = append(rows, kinds[c.next(len(kinds))])
	}
	return rows
}

// unlike are so many rows, of which no two are alike.
func unlike(n int) []api.Row {
	var rows []api.Row
	for i := range n {
		rows = append(rows, api.Row{Fn: i % 7, Frame: i})
	}
	return rows
}

// any are so many runs from anywhere, rising or not.
func (c *chance) any(n int) []api.Run {
	var l []api.Run
	for range n {
		from := c.next(9) - 2
		if c.next(8) == 0 {
			from = numbers()[c.next(len(numbers()))]
		}
		l = append(l, run(from, api.Row{Fn: c.next(3), Defer: c.next(2) == 0}))
	}
	return l
}

// P13.1, tables written out.
func TestMake(t *testing.T) {
	for _, c := range []struct {
		rows []api.Row
		want []api.Run
	}{
		{nil, nil},
		{[]api.Row{}, nil},
		{[]api.Row{x}, []api.Run{run(0, x)}},
		{[]api.Row{z}, []api.Run{run(0, z)}},
		{[]api.Row{x, x, y}, []api.Run{run(0, x), run(2, y)}},
		{[]api.Row{x, y, y}, []api.Run{run(0, x), run(1, y)}},
		{[]api.Row{x, x, x, x, x}, []api.Run{run(0, x)}},
		{[]api.Row{z, z, z}, []api.Run{run(0, z)}},
		{[]api.Row{x, y, z, x}, []api.Run{run(0, x), run(1, y), run(2, z), run(3, x)}},
		// What is alike, but not side by side, is not merged.
		{[]api.Row{x, y, x, y, y, x}, []api.Run{run(0, x), run(1, y), run(2, x), run(3, y), run(5, x)}},
		{[]api.Row{z, x, z}, []api.Run{run(0, z), run(1, x), run(2, z)}},
		{[]api.Row{x, z, z, x}, []api.Run{run(0, x), run(1, z), run(3, x)}},
	} {
		if got := runs.Make(c.rows); !slices.Equal(got, c.want) {
			t.Errorf("Make(%v) = %v; want %v", c.rows, got, c.want)
		}
	}
	for _, row := range likeX() {
		want := []api.Run{run(0, x), run(2, row), run(4, x)}
		if got := runs.Make([]api.Row{x, x, row, row, x}); !slices.Equal(got, want) {
			t.Errorf("of %v beside %v: %v; want %v", row, x, got, want)
		}
	}
}

// P13.1, tables of many rows: none alike, all alike, and some.
func TestMakeMany(t *testing.T) {
	for _, n := range []int{1, 2, most - 1, most, most + 1, 70000} {
		rows := unlike(n)
		l := runs.Make(rows)
		if len(l) != n {
			t.Fatalf("of %d rows of which none are alike: %d runs", n, len(l))
		}
		for i, r := range l {
			if r != run(i, rows[i]) {
				t.Fatalf("of %d rows, at %d: %v", n, i, r)
			}
		}
		if l := runs.Make(slices.Repeat([]api.Row{y}, n)); !slices.Equal(l, []api.Run{run(0, y)}) {
			t.Errorf("of %d rows that are all alike: %d runs", n, len(l))
		}
	}
}

// atOracle is what At says, its words gone through one by one.
func atOracle(l []api.Run, place int) (api.Row, bool) {
	row, ok := api.Row{}, false
	for _, r := range l {
		if r.From > place {
			break
		}
		row, ok = r.Row, true
	}
	return row, ok
}

// P13.1, rows written out.
func TestAt(t *testing.T) {
	rising := []api.Run{run(0, x), run(3, y), run(4, z), run(9, x)}
	later := []api.Run{run(3, x), run(7, y)}
	falling := []api.Run{run(5, x), run(3, y), run(0, z)}
	mixed := []api.Run{run(0, x), run(7, y), run(2, z), run(8, x), run(1, y)}
	twice := []api.Run{run(2, x), run(2, y), run(2, z)}
	below := []api.Run{run(-5, x), run(-1, y)}
	ends := []api.Run{run(math.MinInt, x), run(math.MaxInt, y)}
	none := api.Row{}
	for _, c := range []struct {
		l     []api.Run
		place int
		want  api.Row
		ok    bool
	}{
		{nil, 0, none, false}, {nil, -1, none, false}, {[]api.Run{}, math.MaxInt, none, false},
		// Of Froms that rise: ahead of the first, at each, between two, beyond the last.
		{rising, -1, none, false}, {rising, math.MinInt, none, false},
		{rising, 0, x, true}, {rising, 1, x, true}, {rising, 2, x, true}, {rising, 3, y, true}, {rising, 4, z, true}, {rising, 5, z, true}, {rising, 8, z, true}, {rising, 9, x, true}, {rising, 10, x, true}, {rising, math.MaxInt, x, true},
		{later, -1, none, false}, {later, 0, none, false}, {later, 2, none, false}, {later, 3, x, true}, {later, 6, x, true}, {later, 7, y, true}, {later, 100000, y, true},
		{below, -6, none, false}, {below, -5, x, true}, {below, -2, x, true}, {below, -1, y, true}, {below, 0, y, true},
		{ends, math.MinInt, x, true}, {ends, 0, x, true}, {ends, math.MaxInt - 1, x, true}, {ends, math.MaxInt, y, true},
		// Of others: what is ahead of the first run that is from above.
		{falling, -1, none, false}, {falling, 0, none, false}, {falling, 3, none, false}, {falling, 4, none, false}, {falling, 5, z, true}, {falling, 6, z, true},
		{mixed, 0, x, true}, {mixed, 1, x, true}, {mixed, 2, x, true}, {mixed, 6, x, true}, {mixed, 7, z, true}, {mixed, 8, y, true}, {mixed, -1, none, false},
		{twice, 1, none, false}, {twice, 2, z, true}, {twice, 3, z, true},
	} {
		if got, ok := runs.At(c.l, c.place); got != c.want || ok != c.ok {
			t.Errorf("At(%v, %d) = %v, %v; want %v, %v", c.l, c.place, got, ok, c.want, c.ok)
		}
	}
}

// P13.1, many lists and places.
func TestAtMany(t *testing.T) {
	c := chance(13)
	for i := range 20000 {
		l := c.any(i % 7)
		if i%3 == 0 {
			slices.SortFunc(l, func(a, b api.Run) int { return max(-1, min(1, a.From/2-b.From/2)) })
		}
		for _, place := range append(numbers(), 4, 5, 6, 7, 8) {
			want, is := atOracle(l, place)
			if got, ok := runs.At(l, place); got != want || ok != is {
				t.Fatalf("At(%v, %d) = %v, %v; want %v, %v", l, place, got, ok, want, is)
			}
		}
	}
}

// P13.1, the rows of places.
func TestRows(t *testing.T) {
	c := chance(14)
	for i := range 3000 {
		l := c.any(i % 7)
		for places := -2; places < 12; places++ {
			got := runs.Rows(l, places)
			if len(got) != max(places, 0) {
				t.Fatalf("Rows(%v, %d) are %d", l, places, len(got))
			}
			for place, row := range got {
				if want, _ := atOracle(l, place); row != want {
					t.Fatalf("Rows(%v, %d) at %d = %v; want %v", l, places, place, row, want)
				}
			}
		}
	}
}

// P13.1, how many rows are told.
func TestRowsPlaces(t *testing.T) {
	tables := [][]api.Run{nil, {run(0, x)}, {run(2, x), run(4095, y), run(4096, z)}, {run(9, x), run(4, y)}, {run(-9, x), run(math.MaxInt, y)}}
	for _, l := range tables {
		for _, places := range append(numbers(), 4094, 4098, 5000) {
			want := max(0, min(places, most))
			got := runs.Rows(l, places)
			if len(got) != want {
				t.Errorf("Rows(%v, %d) are %d; want %d", l, places, len(got), want)
				continue
			}
			for place, row := range got {
				if want, _ := atOracle(l, place); row != want {
					t.Errorf("Rows(%v, %d) at %d = %v; want %v", l, places, place, row, want)
				}
			}
		}
	}
}

// P13.2, written out.
func TestCheck(t *testing.T) {
	l := func(l ...api.Run) []api.Run { return l }
	for _, c := range []struct {
		l      []api.Run
		places int
		want   api.Errno
	}{
		// No runs, and no places; just one of both.
		{nil, 0, api.OK}, {l(), 0, api.OK}, {nil, -1, api.OK}, {nil, math.MinInt, api.OK},
		{nil, 1, api.ErrRange}, {l(), 5000, api.ErrRange}, {nil, math.MaxInt, api.ErrRange},
		{l(run(0, x)), 0, api.ErrRange}, {l(run(0, x)), -1, api.ErrRange}, {l(run(0, x)), math.MinInt, api.ErrRange}, {l(run(-2, x)), -1, api.ErrRange},
		// The first From.
		{l(run(0, x)), 1, api.OK}, {l(run(0, z)), 1, api.OK}, {l(run(0, x)), 100000, api.OK}, {l(run(0, x)), math.MaxInt, api.OK},
		{l(run(1, x)), 2, api.ErrRange}, {l(run(-1, x)), 2, api.ErrRange}, {l(run(1, x)), 1, api.ErrRange}, {l(run(math.MinInt, x)), 2, api.ErrRange}, {l(run(math.MaxInt, x)), math.MaxInt, api.ErrRange},
		{l(run(1, x), run(2, y)), 3, api.ErrRange}, {l(run(-1, x), run(0, y)), 3, api.ErrRange}, {l(run(-1, x), run(1, y)), 3, api.ErrRange},
		// Froms that are alike, or fall, wherever.
		{l(run(0, x), run(1, y)), 2, api.OK}, {l(run(0, x), run(7, y), run(8, x)), 9, api.OK}, {l(run(0, x), run(math.MaxInt-1, y)), math.MaxInt, api.OK},
		{l(run(0, x), run(0, y)), 2, api.ErrRange}, {l(run(0, x), run(-1, y)), 2, api.ErrRange}, {l(run(0, x), run(math.MinInt, y)), 2, api.ErrRange},
		{l(run(0, x), run(2, y), run(2, z)), 9, api.ErrRange}, {l(run(0, x), run(3, y), run(2, z)), 9, api.ErrRange}, {l(run(0, x), run(3, y), run(2, z), run(5, x)), 9, api.ErrRange}, {l(run(0, x), run(3, y), run(3, z), run(5, x)), 9, api.ErrRange}, {l(run(0, x), run(3, y), run(4, z), run(4, x)), 9, api.ErrRange},
		// Froms that are the number of places, or above.
		{l(run(0, x), run(2, y)), 3, api.OK}, {l(run(0, x), run(2, y)), 2, api.ErrRange}, {l(run(0, x), run(2, y)), 1, api.ErrRange}, {l(run(0, x), run(math.MaxInt, y)), math.MaxInt, api.ErrRange}, {l(run(0, x), run(5, y), run(1, z)), 4, api.ErrRange}, {l(run(0, x), run(1, y), run(2, z)), 2, api.ErrRange},
		// Two side by side of one row.
		{l(run(0, x), run(1, x)), 2, api.ErrTwice}, {l(run(0, z), run(1, z)), 2, api.ErrTwice}, {l(run(0, x), run(1, y), run(2, y)), 3, api.ErrTwice}, {l(run(0, x), run(1, x), run(2, y)), 3, api.ErrTwice}, {l(run(0, x), run(1, y), run(2, x)), 3, api.OK}, {l(run(0, x), run(100, x)), 5000, api.ErrTwice},
		// Both: the Froms first, wherever they are.
		{l(run(0, x), run(0, x)), 2, api.ErrRange}, {l(run(0, x), run(1, x)), 1, api.ErrRange}, {l(run(0, x), run(1, x), run(1, y)), 3, api.ErrRange}, {l(run(0, x), run(1, x), run(2, y), run(5, z)), 5, api.ErrRange}, {l(run(1, x), run(2, x)), 3, api.ErrRange}, {l(run(0, x), run(1, x)), 0, api.ErrRange},
	} {
		if got := runs.Check(c.l, c.places); got != c.want {
			t.Errorf("Check(%v, %d) = %v; want %v", c.l, c.places, got, c.want)
		}
	}
	for _, row := range likeX() {
		if got := runs.Check([]api.Run{run(0, x), run(1, row), run(2, x)}, 3); got != api.OK {
			t.Errorf("%v beside %v: %v", row, x, got)
		}
		if got := runs.Check([]api.Run{run(0, row), run(1, row)}, 3); got != api.ErrTwice {
			t.Errorf("%v beside itself: %v", row, got)
		}
	}
}

// P13.2, as many runs as there may be, and more: that is told ahead of all else.
func TestCheckMany(t *testing.T) {
	for _, c := range []struct{ n, places int }{{most - 1, most - 1}, {most, most}, {most, 100000}, {most + 1, most + 1}, {most + 1, most}, {most + 1, 0}, {most + 1, -1}, {70000, 70000}, {1 << 17, math.MaxInt}} {
		want := api.OK
		if c.n > most {
			want = api.ErrMany
		}
		l := runs.Make(unlike(c.n))
		if got := runs.Check(l, c.places); got != want {
			t.Errorf("of %d runs, for %d places: %v; want %v", c.n, c.places, got, want)
		}
		twice := slices.Clone(l)
		twice[c.n-1].Row = twice[c.n-2].Row
		if want == api.OK {
			want = api.ErrTwice
		}
		if got := runs.Check(twice, c.places); got != want {
			t.Errorf("of %d runs, two alike: %v; want %v", c.n, got, want)
		}
		l[c.n-1].From--
		if want == api.ErrTwice {
			want = api.ErrRange
		}
		if got := runs.Check(l, c.places); got != want {
			t.Errorf("of %d runs, two from one place: %v; want %v", c.n, got, want)
		}
	}
}

// may tells by the words whether l may be for so many places.
func may(l []api.Run, places int) bool {
	if len(l) == 0 || places == 0 {
		return len(l) == 0 && places == 0
	}
	ahead, row := -1, api.Row{Fn: -9}
	for i, r := range l {
		if i == 0 && r.From != 0 || r.From <= ahead || r.From >= places || r.Row == row {
			return false
		}
		ahead, row = r.From, r.Row
	}
	return true
}

// tables tells all lists of up to four runs, from -1 to places, of two rows.
func tables(places int, tell func(l []api.Run)) {
	var longer func(l []api.Run)
	longer = func(l []api.Run) {
		tell(l)
		if len(l) == 4 {
			return
		}
		for from := -1; from <= places; from++ {
			for _, row := range []api.Row{x, y} {
				longer(append(l[:len(l):len(l)], run(from, row)))
			}
		}
	}
	longer(nil)
}

// P13.2 and P13.4: of each list of rows just one table may be and has them, that which is made.
func TestOnly(t *testing.T) {
	for places := range 4 {
		wanted := map[string]int{}
		tables(places, func(l []api.Run) {
			is := may(l, places)
			if got := runs.Check(l, places); is != (got == api.OK) {
				t.Errorf("Check(%v, %d) = %v", l, places, got)
			}
			if !is {
				return
			}
			rows := runs.Rows(l, places)
			wanted[fmt.Sprint(rows)]++
			if made := runs.Make(rows); !slices.Equal(made, l) {
				t.Errorf("%v may be, and has %v, of which %v is made", l, rows, made)
			}
		})
		if len(wanted) != 1<<places {
			t.Errorf("of %d places there are tables of %d lists of rows", places, len(wanted))
		}
		for rows, n := range wanted {
			if n != 1 {
				t.Errorf("%d tables may be of %s", n, rows)
			}
		}
	}
}

// P13.4: what was made may be, and has the rows.
func TestMadeMayBe(t *testing.T) {
	c := chance(15)
	for i := range 3000 {
		rows := c.some(i % 40)
		if i%500 == 0 {
			rows = c.some(most - i/500)
		}
		l := runs.Make(rows)
		if got := runs.Check(l, len(rows)); got != api.OK {
			t.Errorf("the table of %v: %v", rows, got)
		}
		if got := runs.Rows(l, len(rows)); !slices.Equal(got, rows) {
			t.Errorf("the table of %v has %v", rows, got)
		}
		for place, want := range rows {
			if got, ok := runs.At(l, place); got != want || !ok {
				t.Errorf("the table of %v at %d: %v, %v", rows, place, got, ok)
			}
		}
		if got := runs.Check(l, len(rows)-1); len(rows) == len(l) && len(rows) > 0 && got != api.ErrRange {
			t.Errorf("the table of %v, of a place less: %v", rows, got)
		}
	}
}

// written is a run's bytes, as the document has them.
func written(r api.Run) string {
	b := []byte{byte(r.From >> 8), byte(r.From), byte(r.Row.Fn >> 8), byte(r.Row.Fn), byte(r.Row.Frame >> 8), byte(r.Row.Frame), byte(r.Row.Line >> 8), byte(r.Row.Line), 0}
	if r.Row.Defer {
		b[8] = 1
	}
	return string(b)
}

// P13.3, bytes written out.
func TestPut(t *testing.T) {
	odd := api.Row{Fn: -1, Frame: 65536 + 258, Defer: true, Line: math.MinInt + 3}
	for _, c := range []struct {
		b    string
		l    []api.Run
		want string
	}{
		{"", nil, "\x00\x00"},
		{"abc", []api.Run{}, "abc\x00\x00"},
		{"", []api.Run{run(258, x)}, "\x00\x01\x01\x02\x00\x01\x00\x46\x00\x0c\x01"},
		{"\x09", []api.Run{run(0, z)}, "\x09\x00\x01\x00\x00\x00\x00\x00\x00\x00\x00\x00"},
		{"", []api.Run{run(0, x), run(2, y)}, "\x00\x02\x00\x00\x00\x01\x00\x46\x00\x0c\x01\x00\x02\x00\x02\x00\x03\xff\xff\x00"},
		// What may not be is put, too: the lowest bits of it.
		{"", []api.Run{run(-1, odd)}, "\x00\x01\xff\xff\xff\xff\x01\x02\x00\x03\x01"},
		{"", []api.Run{run(math.MaxInt, x), run(math.MinInt, x)}, "\x00\x02\xff\xff\x00\x01\x00\x46\x00\x0c\x01\x00\x00\x00\x01\x00\x46\x00\x0c\x01"},
		{"", []api.Run{run(0, api.Row{Fn: 0x0102, Frame: 0x0304, Line: 0x0506})}, "\x00\x01\x00\x00\x01\x02\x03\x04\x05\x06\x00"},
	} {
		if got := string(runs.Put([]byte(c.b), c.l)); got != c.want {
			t.Errorf("Put(%q, %v) = %q; want %q", c.b, c.l, got, c.want)
		}
	}
	if got := string(runs.Put(nil, nil)); got != "\x00\x00" {
		t.Errorf("Put(nil, nil) = %q", got)
	}
	for _, n := range []int{255, 256, most, 65535, 65536, 65538} {
		l := runs.Make(unlike(n))
		want := []byte{byte(n >> 8), byte(n)}
		for _, r := range l {
			want = append(want, written(r)...)
		}
		if got := runs.Put(nil, l); !bytes.Equal(got, want) {
			t.Errorf("%d runs are put otherwise", n)
		}
	}
}

// got holds Get of a reader against what it should answer.
func got(t *testing.T, what string, r *octet.Reader, want []api.Run, err api.Errno) {
	t.Helper()
	if l, e := runs.Get(r); !slices.Equal(l, want) || e != err {
		t.Errorf("%s: Get = %v, %v; want %v, %v", what, l, e, want, err)
	}
}

// P13.3, bytes that are got, and what is behind them is left.
func TestGet(t *testing.T) {
	high := api.Row{Fn: 65535, Frame: 32768, Defer: true, Line: 65280}
	for _, c := range []struct {
		b    string
		want []api.Run
	}{
		{"\x00\x00", nil},
		{"\x00\x01\x01\x02\x00\x01\x00\x46\x00\x0c\x01", []api.Run{run(258, x)}},
		{"\x00\x02\x00\x00\x00\x01\x00\x46\x00\x0c\x01\x00\x02\x00\x02\x00\x03\xff\xff\x00", []api.Run{run(0, x), run(2, y)}},
		// Numbers from 0 on, and what may not be: Froms that fall, rows that are alike.
		{"\x00\x03\xff\xff\xff\xff\x80\x00\xff\x00\x01\x00\x00\xff\xff\x80\x00\xff\x00\x01\x00\x00\x00\x00\x00\x00\x00\x00\x00", []api.Run{run(65535, high), run(0, high), run(0, z)}},
	} {
		for _, behind := range []string{"", "\x00", "\x02", "\x00\x01\x02"} {
			r := octet.New([]byte("\x09" + c.b + behind))
			r.Num(1)
			got(t, fmt.Sprintf("%q", c.b), r, c.want, api.OK)
			if r.At() != 1+len(c.b) || r.Left() != len(behind) || r.Bad() {
				t.Errorf("behind %q: at, left, bad are %d, %d, %v", c.b, r.At(), r.Left(), r.Bad())
			}
		}
	}
	r := octet.New([]byte("\x00\x00\x00\x01" + written(run(3, x)) + "\x00\x00"))
	got(t, "first", r, nil, api.OK)
	got(t, "second", r, []api.Run{run(3, x)}, api.OK)
	got(t, "third", r, nil, api.OK)
	got(t, "behind the end", r, nil, api.ErrShort)
}

// P13.3, more runs than a table may have are got: Check alone refuses them.
func TestGetMany(t *testing.T) {
	for _, n := range []int{255, 256, most, most + 1, 65535} {
		l := runs.Make(unlike(n))
		b := runs.Put(nil, l)
		r := octet.New(b)
		if back, e := runs.Get(r); !slices.Equal(back, l) || e != api.OK || r.Left() != 0 {
			t.Errorf("of %d runs: %d, %v, %d bytes are left", n, len(back), e, r.Left())
		}
		got(t, "a byte less", octet.New(b[:len(b)-1]), nil, api.ErrShort)
		b[len(b)-1] = 2
		got(t, "the last byte", octet.New(b), nil, api.ErrForm)
	}
}

// P13.3, bytes lack, at each place; that of a run which lacks a byte is told ahead of nothing of its own.
func TestGetShort(t *testing.T) {
	for n := range 4 {
		b := []byte{0, byte(n)}
		for i := range n {
			b = append(b, written(run(i*300, []api.Row{x, y, z}[i]))...)
		}
		for has := range len(b) {
			got(t, fmt.Sprintf("%d of %d bytes", has, len(b)), octet.New(b[:has]), nil, api.ErrShort)
		}
	}
	got(t, "more runs than bytes", octet.New([]byte("\xff\xff"+strings.Repeat("\x00", 65))), nil, api.ErrShort)
	got(t, "runs, and no bytes", octet.New([]byte("\xff\xff")), nil, api.ErrShort)
}

// P13.3, a last byte that is neither 0 nor 1, alone, beside others, and beside bytes that lack.
func TestGetForm(t *testing.T) {
	good, short := written(run(1, x)), written(run(2, y))[:8]
	for last := 2; last < 256; last++ {
		bad := good[:8] + string([]byte{byte(last)})
		for _, c := range []struct {
			what, b string
			want    api.Errno
		}{
			{"alone", "\x00\x01" + bad, api.ErrForm},
			{"first", "\x00\x03" + bad + good + good, api.ErrForm},
			{"second", "\x00\x03" + good + bad + good, api.ErrForm},
			{"last", "\x00\x03" + good + good + bad, api.ErrForm},
			{"all", "\x00\x03" + bad + bad + bad, api.ErrForm},
			{"bytes lack behind it", "\x00\x02" + bad + short, api.ErrForm},
			{"all bytes lack behind it", "\x00\x02" + bad, api.ErrForm},
			{"bytes lack behind the next one", "\x00\x03" + bad + good, api.ErrForm},
			{"bytes lack, where it would be", "\x00\x02" + good + bad[:8], api.ErrShort},
			{"it is behind all runs", "\x00\x01" + good + bad, api.OK},
			{"it is behind none", "\x00\x00" + bad, api.OK},
		} {
			var want []api.Run
			if c.want == api.OK && c.b[1] == 1 {
				want = []api.Run{run(1, x)}
			}
			got(t, fmt.Sprintf("%d, %s", last, c.what), octet.New([]byte(c.b)), want, c.want)
		}
	}
}

// P13.3 and P7, readers that are nobody's, bad, or at their end.
func TestGetNobody(t *testing.T) {
	for _, r := range []*octet.Reader{nil, {}, new(octet.Reader), octet.New(nil), octet.New([]byte{}), octet.New([]byte{0})} {
		for range 2 {
			got(t, "nobody's, or at its end", r, nil, api.ErrShort)
			if !r.Bad() {
				t.Error("a reader that lacks bytes is not bad")
			}
		}
	}
	for _, spoil := range []func(r *octet.Reader){func(r *octet.Reader) { r.Num(0) }, func(r *octet.Reader) { r.Signed(9) }, func(r *octet.Reader) { r.Text(-1) }} {
		r := octet.New([]byte("\x00\x00\x00\x00"))
		spoil(r)
		got(t, "bad", r, nil, api.ErrShort)
		if r.At() != 0 || r.Left() != 4 {
			t.Error("a bad reader reads")
		}
	}
}

// P13.3, there and back; what is got is put as it was.
func TestThereAndBack(t *testing.T) {
	c := chance(16)
	for i := range 3000 {
		var l []api.Run
		for range i % 12 {
			l = append(l, run(c.next(65536), api.Row{Fn: c.next(65536), Frame: c.next(65536), Defer: c.next(2) == 0, Line: c.next(65536)}))
		}
		ahead := strings.Repeat("\x07", i%3)
		b := runs.Put([]byte(ahead), l)
		r := octet.New(b)
		for range len(ahead) {
			r.Num(1)
		}
		back, e := runs.Get(r)
		if !slices.Equal(back, l) || e != api.OK || r.Left() != 0 {
			t.Fatalf("%v is got as %v, %v; %d bytes are left", l, back, e, r.Left())
		}
		if again := runs.Put([]byte(ahead), back); !bytes.Equal(again, b) {
			t.Fatalf("%q is put as %q", b, again)
		}
	}
}

// The rules: what is handed in is not changed, and no answer shares memory with it, or with another.
func TestShares(t *testing.T) {
	rows := []api.Row{x, x, y, z}
	l := []api.Run{run(0, x), run(2, y), run(3, z)}
	made, again := runs.Make(rows), runs.Make(rows)
	told, retold := runs.Rows(l, 4), runs.Rows(l, 4)
	clear(made[:cap(made)])
	clear(told[:cap(told)])
	if !slices.Equal(again, l) || !slices.Equal(retold, rows) || !slices.Equal(rows, []api.Row{x, x, y, z}) || !slices.Equal(l, []api.Run{run(0, x), run(2, y), run(3, z)}) {
		t.Error("an answer shares memory")
	}
	clear(rows)
	if !slices.Equal(again, l) {
		t.Error("rows that were handed in are kept")
	}
	clear(l)
	if !slices.Equal(retold, []api.Row{x, x, y, z}) {
		t.Error("runs that were handed in are kept")
	}
}

// The rules, of bytes.
func TestPutShares(t *testing.T) {
	l := []api.Run{run(0, x), run(2, y)}
	for _, room := range []int{0, 1, 2, 20, 400} {
		for _, has := range []int{0, 1, 3} {
			all := bytes.Repeat([]byte{7}, has+room)
			b := all[:has]
			first, second := runs.Put(b, l), runs.Put(b, l)
			want := string(second)
			first = first[:cap(first)]
			for i := range first {
				first[i] = 1
			}
			if string(second) != want || string(runs.Put(b, l)) != want {
				t.Errorf("%d, room %d: an answer shares memory with another", has, room)
			}
			if strings.Trim(string(all), "\x07") != "" {
				t.Errorf("%d, room %d: what was handed in is %q", has, room, all)
			}
			for i := range all {
				all[i] = 8
			}
			if string(second) != want {
				t.Errorf("%d, room %d: what was handed in is kept", has, room)
			}
		}
	}
	r := octet.New(runs.Put(runs.Put(nil, l), l))
	first, _ := runs.Get(r)
	clear(first[:cap(first)])
	got(t, "the second list", r, l, api.OK)
}

// P7: each call ends at all arguments, and answers alike when it is asked again.
func TestEnds(t *testing.T) {
	c := chance(17)
	for i := range 2000 {
		l := c.any(i % 9)
		for j := range l {
			pick := func() int { return numbers()[c.next(len(numbers()))] }
			l[j] = run(pick(), api.Row{Fn: pick(), Frame: pick(), Defer: c.next(2) == 0, Line: pick()})
		}
		kept := slices.Clone(l)
		for _, n := range numbers() {
			if runs.Check(l, n) != runs.Check(l, n) {
				t.Errorf("Check(%v, %d)", l, n)
			}
			row, ok := runs.At(l, n)
			if again, is := runs.At(l, n); again != row || is != ok || !ok && row != (api.Row{}) {
				t.Errorf("At(%v, %d)", l, n)
			}
		}
		rows := runs.Rows(l, 5+i)
		if made := runs.Make(rows); runs.Check(made, len(rows)) != api.OK {
			t.Errorf("of the rows of %v a table is made that may not be", l)
		}
		back, e := runs.Get(octet.New(runs.Put(nil, l)))
		if e != api.OK || len(back) != len(l) {
			t.Errorf("%v is got as %v, %v", l, back, e)
		}
		if !slices.Equal(l, kept) {
			t.Errorf("%v is changed to %v", kept, l)
		}
	}
}

// P7: a list as long as may be is gone through in time.
func TestLong(t *testing.T) {
	l := make([]api.Run, 1<<21)
	if got := runs.Rows(l, math.MaxInt); len(got) != most {
		t.Errorf("%d rows", len(got))
	}
	for i := range l {
		l[i].From = i
	}
	if row, ok := runs.At(l, math.MaxInt); !ok || row != (api.Row{}) || runs.Check(l, math.MaxInt) != api.ErrMany {
		t.Error("a long list")
	}
	if got := runs.Put(nil, l); len(got) != 2+9*len(l) {
		t.Errorf("a long list is put as %d bytes", len(got))
	}
	if got := runs.Rows(l, math.MaxInt); len(got) != most {
		t.Errorf("%d rows", len(got))
	}
}
