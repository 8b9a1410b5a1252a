package queue

// waiter is an id that waits, with its key.
type waiter struct {
	id, key int
}

// isAhead holds numbers against one another as they are: what is between the least and the greatest would go round.
func (w waiter) isAhead(other waiter) bool {
	if w.key != other.key {
		return w.key < other.key
	}
	return w.id < other.id
}

// pile is what waits, as container/heap wants it, and, of each id, where in it that lies.
type pile struct {
	waiters []waiter
	at      map[int]int
}

// Len, Less, Swap, Push and Pop are what container/heap asks for.
func (p *pile) Len() int           { return len(p.waiters) }
func (p *pile) Less(i, j int) bool { return p.waiters[i].isAhead(p.waiters[j]) }

func (p *pile) Swap(i, j int) {
	p.waiters[i], p.waiters[j] = p.waiters[j], p.waiters[i]
	p.at[p.waiters[i].id] = i
	p.at[p.waiters[j].id] = j
}

func (p *pile) Push(x any) {
	w := x.(waiter)
	p.at[w.id] = len(p.waiters)
	p.waiters = append(p.waiters, w)
}

func (p *pile) Pop() any {
	last := len(p.waiters) - 1
	w := p.waiters[last]
	p.waiters = p.waiters[:last]
	return w
}

// forget is who came out of the pile; the heap moved it to the end first, so that its place stood in the map till now.
func (p *pile) forget(x any) waiter {
	w := x.(waiter)
	delete(p.at, w.id)
	return w
}
