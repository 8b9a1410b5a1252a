package queue_test

import (
	"math"
	"slices"
	"testing"

	"sheerleg/queue"
)

// entry is an id and its key.
type entry struct {
	id, key int
}

// oracle has what waits in a plain list, in no order.
type oracle struct {
	waits []entry
}

func (o *oracle) find(id int) int {
	return slices.IndexFunc(o.waits, func(e entry) bool { return e.id == id })
}

func (o *oracle) put(id, key int) bool {
	if o.find(id) >= 0 {
		return false
	}
	o.waits = append(o.waits, entry{id, key})
	return true
}

func (o *oracle) take() (int, int, bool) {
	if len(o.waits) == 0 {
		return 0, 0, false
	}
	first := 0
	for i, e := range o.waits {
		if f := o.waits[first]; e.key < f.key || e.key == f.key && e.id < f.id {
			first = i
		}
	}
	e := o.waits[first]
	o.waits = slices.Delete(o.waits, first, first+1)
	return e.id, e.key, true
}

func (o *oracle) drop(id int) bool {
	at := o.find(id)
	if at < 0 {
		return false
	}
	o.waits = slices.Delete(o.waits, at, at+1)
	return true
}

func (o *oracle) key(id int) (int, bool) {
	at := o.find(id)
	if at < 0 {
		return 0, false
	}
	return o.waits[at].key, true
}

// edges are ids and keys of all sorts; their differences go round, some have the same lowest bits.
func edges() []int {
	return []int{math.MinInt, math.MinInt + 1, math.MinInt / 2, -1<<32 - 1, -1 << 32, -1 << 31, -65536, -256, -2, -1, 0, 1, 2, 3, 255, 256, 65536, 1 << 31, 1<<32 - 1, 1 << 32, 1<<32 + 1, math.MaxInt / 2, math.MaxInt - 1, math.MaxInt}
}

func filled(t *testing.T, l ...entry) *queue.Queue {
	t.Helper()
	q := queue.New()
	for _, e := range l {
		if !q.Put(e.id, e.key) {
			t.Fatalf("Put(%d, %d) = false", e.id, e.key)
		}
	}
	return q
}

// empty takes all, one after another, held against want.
func empty(t *testing.T, q *queue.Queue, want ...entry) {
	t.Helper()
	for i, w := range want {
		if n := q.Len(); n != len(want)-i {
			t.Errorf("Len() = %d; want %d", n, len(want)-i)
		}
		if id, key, ok := q.Take(); id != w.id || key != w.key || !ok {
			t.Errorf("taken at %d: %d, %d, %v; want %d, %d, true", i, id, key, ok, w.id, w.key)
		}
		if key, ok := q.Key(w.id); key != 0 || ok {
			t.Errorf("Key(%d) = %d, %v of what was taken", w.id, key, ok)
		}
	}
	none(t, q)
}

// none holds q against an empty one.
func none(t *testing.T, q *queue.Queue) {
	t.Helper()
	if n := q.Len(); n != 0 {
		t.Errorf("Len() = %d; want 0", n)
	}
	if id, key, ok := q.Take(); id != 0 || key != 0 || ok {
		t.Errorf("Take() = %d, %d, %v; want 0, 0, false", id, key, ok)
	}
}

// sorted is l as it is taken.
func sorted(l []entry) []entry {
	o := &oracle{waits: slices.Clone(l)}
	var out []entry
	for {
		id, key, ok := o.take()
		if !ok {
			return out
		}
		out = append(out, entry{id, key})
	}
}

// P6.1, the document's example.
func TestExample(t *testing.T) {
	q := filled(t, entry{3, 9}, entry{4, 5}, entry{1, 9})
	if q.Len() != 3 {
		t.Errorf("Len() = %d; want 3", q.Len())
	}
	empty(t, q, entry{4, 5}, entry{1, 9}, entry{3, 9})
}

// P6.1, an empty one.
func TestNew(t *testing.T) {
	q := queue.New()
	none(t, q)
	for _, id := range edges() {
		if key, ok := q.Key(id); key != 0 || ok {
			t.Errorf("Key(%d) = %d, %v; want 0, false", id, key, ok)
		}
		if q.Drop(id) {
			t.Errorf("Drop(%d) = true", id)
		}
	}
	none(t, q)
	q.Put(0, 0) // an id and a key that are as nothing
	if key, ok := q.Key(0); key != 0 || !ok || q.Len() != 1 {
		t.Errorf("Key(0) = %d, %v, Len() = %d; want 0, true, 1", key, ok, q.Len())
	}
	if id, key, ok := q.Take(); id != 0 || key != 0 || !ok {
		t.Errorf("Take() = %d, %d, %v; want 0, 0, true", id, key, ok)
	}
	none(t, q)
}

// P6.1, an id that waits already keeps its key, be the other one the same, less or greater.
func TestPutTwice(t *testing.T) {
	q := filled(t, entry{1, 5}, entry{2, 7}, entry{3, 7})
	for _, e := range []entry{{1, 5}, {1, 9}, {1, math.MinInt}, {2, 7}, {2, 0}, {2, 8}, {3, 6}, {3, math.MaxInt}} {
		if q.Put(e.id, e.key) {
			t.Errorf("Put(%d, %d) = true, though it waits", e.id, e.key)
		}
	}
	for _, e := range []entry{{1, 5}, {2, 7}, {3, 7}} {
		if key, ok := q.Key(e.id); key != e.key || !ok {
			t.Errorf("Key(%d) = %d, %v; want %d, true", e.id, key, ok, e.key)
		}
	}
	empty(t, q, entry{1, 5}, entry{2, 7}, entry{3, 7})
}

// P6.1, what was taken, or dropped, is put again, with another key.
func TestPutAgain(t *testing.T) {
	q := filled(t, entry{1, 5}, entry{2, 6}, entry{3, 7})
	q.Take()
	if !q.Put(1, 9) {
		t.Error("what was taken is not put again")
	}
	if !q.Drop(2) || !q.Put(2, 8) {
		t.Error("what was dropped is not put again")
	}
	if key, ok := q.Key(1); key != 9 || !ok {
		t.Errorf("Key(1) = %d, %v; want 9, true", key, ok)
	}
	if key, ok := q.Key(2); key != 8 || !ok {
		t.Errorf("Key(2) = %d, %v; want 8, true", key, ok)
	}
	empty(t, q, entry{3, 7}, entry{2, 8}, entry{1, 9})
	if !q.Put(3, 7) || !q.Put(1, -9) {
		t.Error("into one that was emptied nothing is put")
	}
	empty(t, q, entry{1, -9}, entry{3, 7})
}

// P6.1, each of several is dropped, at whatever place: it is gone, and the others wait yet.
func TestDrop(t *testing.T) {
	for _, l := range lists() {
		for _, gone := range l {
			q := filled(t, l...)
			if !q.Drop(gone.id) {
				t.Errorf("Drop(%d) = false of %v", gone.id, l)
			}
			if key, ok := q.Key(gone.id); key != 0 || ok {
				t.Errorf("Key(%d) = %d, %v of what was dropped", gone.id, key, ok)
			}
			if q.Drop(gone.id) {
				t.Errorf("Drop(%d) = true twice", gone.id)
			}
			rest := slices.DeleteFunc(slices.Clone(l), func(e entry) bool { return e == gone })
			for _, e := range rest {
				if key, ok := q.Key(e.id); key != e.key || !ok {
					t.Errorf("Key(%d) = %d, %v; want %d, true", e.id, key, ok, e.key)
				}
			}
			empty(t, q, sorted(rest)...)
		}
	}
}

// lists are what is put, in some orders.
func lists() [][]entry {
	all := [][]entry{
		{{7, 7}},
		{{1, 2}, {2, 1}},
		{{1, 1}, {2, 1}},
		{{2, 1}, {1, 1}},
		// Where 9 goes the last one, 4, comes to its place, and must rise from there.
		{{1, 1}, {5, 5}, {2, 2}, {9, 9}, {6, 6}, {3, 3}, {4, 4}},
		{{1, 1}, {6, 6}, {2, 2}, {9, 9}, {8, 8}, {3, 3}, {5, 5}, {10, 10}, {11, 11}, {12, 12}, {13, 13}, {4, 4}},
	}
	var rising, falling, alike, edged []entry
	for i := range 20 {
		rising = append(rising, entry{i, i})
		falling = append(falling, entry{i, -i})
		alike = append(alike, entry{(i * 7) % 20, 3})
	}
	for i, id := range edges() {
		edged = append(edged, entry{id, edges()[(i*7)%len(edges())]})
	}
	return append(all, rising, falling, alike, edged)
}

// P6.1 and P6.3, keys that are alike: the least id comes first, in whatever order they were put.
func TestAlike(t *testing.T) {
	for _, key := range edges() {
		var l []entry
		for _, id := range edges() {
			l = append(l, entry{id, key})
		}
		want := slices.Clone(l)
		for range 5 {
			empty(t, filled(t, l...), want...)
			slices.Reverse(l)
			empty(t, filled(t, l...), want...)
			l = slices.Concat(l[7:], l[:7])
		}
	}
}

// P6.1 and P6.3, each two numbers as keys, and as ids.
func TestPairs(t *testing.T) {
	for _, a := range edges() {
		for _, b := range edges() {
			if a >= b {
				continue
			}
			for _, ids := range [][2]int{{1, 2}, {2, 1}} {
				low, high := entry{ids[0], a}, entry{ids[1], b}
				empty(t, filled(t, low, high), low, high)
				empty(t, filled(t, high, low), low, high)
			}
			for _, key := range []int{math.MinInt, -1, 0, math.MaxInt} {
				low, high := entry{a, key}, entry{b, key}
				empty(t, filled(t, low, high), low, high)
				empty(t, filled(t, high, low), low, high)
			}
		}
	}
}

// P6.1, ids with the same lowest bits, or with another sign, are several.
func TestIdsApart(t *testing.T) {
	q := queue.New()
	for i, id := range edges() {
		if !q.Put(id, i) {
			t.Errorf("Put(%d) = false", id)
		}
	}
	for i, id := range edges() {
		if key, ok := q.Key(id); key != i || !ok {
			t.Errorf("Key(%d) = %d, %v; want %d, true", id, key, ok, i)
		}
	}
	for _, id := range []int{-3, 4, 257, 1<<32 + 2, math.MaxInt - 2} {
		if key, ok := q.Key(id); key != 0 || ok || q.Drop(id) {
			t.Errorf("%d waits, though nobody put it", id)
		}
	}
	if q.Len() != len(edges()) {
		t.Errorf("Len() = %d; want %d", q.Len(), len(edges()))
	}
}

// P6.1, all that is done, in many orders, held against the oracle.
func TestManyCalls(t *testing.T) {
	for _, ids := range []int{1, 2, 3, 8, 40, 300} {
		for _, keys := range []int{1, 2, 10, 1 << 30} {
			q, o := queue.New(), &oracle{}
			chance := uint64(ids*31 + keys)
			next := func(n int) int {
				chance = chance*6364136223846793005 + 1442695040888963407
				return int(chance>>33) % n
			}
			for range 3000 {
				same(t, q, o, next(7), next(ids)-ids/2, next(keys)-keys/2)
			}
			if t.Failed() {
				t.Fatalf("%d ids, %d keys", ids, keys)
			}
			empty(t, q, sorted(o.waits)...)
		}
	}
}

// same does one thing with both.
func same(t *testing.T, q *queue.Queue, o *oracle, what, id, key int) {
	t.Helper()
	switch what {
	case 0:
		gotID, got, ok := q.Take()
		if wantID, want, is := o.take(); gotID != wantID || got != want || ok != is {
			t.Errorf("Take() = %d, %d, %v; want %d, %d, %v", gotID, got, ok, wantID, want, is)
		}
	case 1:
		if got, want := q.Drop(id), o.drop(id); got != want {
			t.Errorf("Drop(%d) = %v; want %v", id, got, want)
		}
	case 2:
		got, ok := q.Key(id)
		if want, is := o.key(id); got != want || ok != is {
			t.Errorf("Key(%d) = %d, %v; want %d, %v", id, got, ok, want, is)
		}
	default:
		if got, want := q.Put(id, key), o.put(id, key); got != want {
			t.Errorf("Put(%d, %d) = %v; want %v", id, key, got, want)
		}
	}
	if q.Len() != len(o.waits) {
		t.Errorf("Len() = %d; want %d", q.Len(), len(o.waits))
	}
}

// P6.2, queues that are nobody's: nothing waits there, whatever is put.
func TestNobody(t *testing.T) {
	for what, q := range map[string]*queue.Queue{"nil": nil, "a literal's": {}, "new's": new(queue.Queue)} {
		for _, id := range edges() {
			for _, key := range []int{math.MinInt, -1, 0, 1, math.MaxInt} {
				if q.Put(id, key) {
					t.Errorf("%s: Put(%d, %d) = true", what, id, key)
				}
			}
			if key, ok := q.Key(id); key != 0 || ok {
				t.Errorf("%s: Key(%d) = %d, %v; want 0, false", what, id, key, ok)
			}
			if q.Drop(id) {
				t.Errorf("%s: Drop(%d) = true", what, id)
			}
			none(t, q)
		}
	}
}

// P6.1 and the rules: queues don't know one another, nobody's among them.
func TestQueuesAlone(t *testing.T) {
	first, second := queue.New(), queue.New()
	first.Put(1, 5)
	if _, ok := second.Key(1); ok || second.Len() != 0 || queue.New().Len() != 0 {
		t.Error("another queue has what was put")
	}
	if !second.Put(1, 6) {
		t.Error("what waits in another queue is not put")
	}
	new(queue.Queue).Put(2, 2)
	empty(t, second, entry{1, 6})
	empty(t, first, entry{1, 5})
}

// P6.3, all orders of a list: what is taken rises by key, then by id; all come, each once.
func TestOrders(t *testing.T) {
	l := []entry{{4, -3}, {-4, 0}, {0, 0}, {9, 0}, {-9, 2}, {1, math.MinInt}, {2, math.MaxInt}}
	want := []entry{{1, math.MinInt}, {4, -3}, {-4, 0}, {0, 0}, {9, 0}, {-9, 2}, {2, math.MaxInt}}
	orders(l, 0, func(l []entry) { empty(t, filled(t, l...), want...) })
}

// orders tells l in each order of what stands from at on.
func orders(l []entry, at int, tell func(l []entry)) {
	if at == len(l) {
		tell(l)
		return
	}
	for i := at; i < len(l); i++ {
		l[at], l[i] = l[i], l[at]
		orders(l, at+1, tell)
		l[at], l[i] = l[i], l[at]
	}
}

// P6.3, many, of which some are put between, and some dropped.
func TestMany(t *testing.T) {
	const n = 100000
	q := queue.New()
	key := func(id int) int { return (id*7919)%1009 - 500 }
	for id := range n {
		q.Put(id, key(id))
	}
	for id := 0; id < n; id += 3 {
		if !q.Drop(id) {
			t.Fatalf("Drop(%d) = false", id)
		}
	}
	for id := 0; id < n; id += 9 {
		if !q.Put(id, key(id)) {
			t.Fatalf("Put(%d) = false", id)
		}
	}
	seen := make([]int, n)
	last := entry{math.MinInt, math.MinInt}
	for left := q.Len(); left > 0; left-- {
		id, k, ok := q.Take()
		if !ok || id < 0 || id >= n || k != key(id) || q.Len() != left-1 {
			t.Fatalf("Take() = %d, %d, %v; %d are left", id, k, ok, q.Len())
		}
		if k < last.key || k == last.key && id <= last.id {
			t.Fatalf("%d, %d comes behind %d, %d", id, k, last.id, last.key)
		}
		seen[id]++
		last = entry{id, k}
	}
	for id, times := range seen {
		want := 1
		if id%3 == 0 && id%9 != 0 {
			want = 0
		}
		if times != want {
			t.Fatalf("%d came %d times; want %d", id, times, want)
		}
	}
	none(t, q)
}

// P7, of queue: each call ends at all arguments, and a queue of the same calls answers alike.
func TestQueueEnds(t *testing.T) {
	first, second := queue.New(), queue.New()
	for round := range 4 {
		for i, id := range edges() {
			key := edges()[(i*5+round)%len(edges())]
			if first.Put(id, key) != second.Put(id, key) || first.Put(id, id) || second.Put(id, id) {
				t.Errorf("Put(%d, %d)", id, key)
			}
			if i%3 == round%3 {
				a, k, ok := first.Take()
				if b, l, is := second.Take(); a != b || k != l || ok != is {
					t.Errorf("Take() = %d, %d, %v and %d, %d, %v", a, k, ok, b, l, is)
				}
			}
			if i%4 == round && first.Drop(id) != second.Drop(id) {
				t.Errorf("Drop(%d)", id)
			}
			k, ok := first.Key(id)
			if l, is := second.Key(id); k != l || ok != is || !ok && k != 0 {
				t.Errorf("Key(%d) = %d, %v and %d, %v", id, k, ok, l, is)
			}
		}
	}
}
