package grows

import (
	"math"
	"slices"
	"testing"

	"layby/api"
	"layby/buckets"
	"layby/fairs"
	"layby/lines"
	"layby/pairs"
	"layby/tables"
	"layby/wordfrees"
	"layby/worlds"
)

// stage of what a thread does: a step of it; is it over?
type stage func(t *testing.T) bool

// crowd: threads that join, while others park, are taken, leave, and are moved, each under its buckets' locks, in a world.
type crowd struct {
	w      *worlds.World
	stages [64][]stage         // that threads have left
	locks  map[api.Addr]int    // which thread has which lock
	parked map[api.Addr][]int  // threads of a key, in their order
	word   uint64              // the table's, as it was when it was replaced last
	joined uint64              // how many did, as far as line 1
	began  map[int]fairs.Timer // timers of new tables, by their bits
}

func newCrowd(w *worlds.World) *crowd {
	return &crowd{w: w, locks: map[api.Addr]int{}, parked: map[api.Addr][]int{}, word: w.Cells.Peek(0), joined: w.Cells.Peek(1), began: map[int]fairs.Timer{}}
}

// add stages to what a thread has left.
func (c *crowd) add(thread int, stages ...stage) {
	c.stages[thread] = append(c.stages[thread], stages...)
}

// join of a thread: when it is through, the table is great enough for as many as joined with it.
func (c *crowd) join(thread int) {
	x, count, asked := NewJoin(thread), uint64(0), false
	c.add(thread, func(t *testing.T) bool {
		over := x.Step(c.w)
		if !asked {
			asked = true
			c.joined++
			count = c.joined
		}
		if over && bitsOf(c.w.Cells.Peek(0)) < bitsFor(count) {
			t.Fatalf("%d joined, and the table's word is %d", count, c.w.Cells.Peek(0))
		}
		return over
	})
}

// under the lock of a key's bucket something is done; behind that the lock goes.
func (c *crowd) under(thread int, key api.Addr, there func(p tables.Place)) {
	x := buckets.NewEnter(thread, key)
	var back *wordfrees.Free
	c.add(thread, func(t *testing.T) bool { return x.Step(c.w) }, func(t *testing.T) bool {
		c.has(t, thread, x.Got(), key)
		there(x.Got())
		back = wordfrees.NewFree(buckets.Lock(x.Got()))
		return true
	}, func(*testing.T) bool { return back.Step(c.w) })
}

// has a thread the lock of where a key hashes to in the table that counts?
func (c *crowd) has(t *testing.T, thread int, p tables.Place, key api.Addr) {
	t.Helper()
	if whose, had := c.locks[lockAt(p.Bits, p.Bucket)]; p != placeOf(key, c.w.Cells.Peek(0)) || !had || whose != thread {
		t.Fatalf("thread %d, key %d: it is at %+v, and the table's word is %d", thread, key, p, c.w.Cells.Peek(0))
	}
}

// park a thread, if it is parked nowhere: its key is stored, and it is queued.
func (c *crowd) park(thread int, key api.Addr) {
	c.under(thread, key, func(p tables.Place) {
		if len(c.w.Tables.Places(thread)) > 0 {
			c.w.Cells.Load(api.CellKey + api.Addr(thread))
			return
		}
		c.w.Cells.Store(api.CellKey+api.Addr(thread), uint64(key))
		c.w.Tables.Put(p, append(c.w.Tables.Queue(p), lines.Entry{Thread: thread, Key: key, Token: uint64(key) + 1}))
		c.parked[key] = append(c.parked[key], thread)
	})
}

// take the oldest one of a key.
func (c *crowd) take(thread int, key api.Addr) {
	c.under(thread, key, func(p tables.Place) {
		c.w.Cells.Load(api.CellKey + api.Addr(thread))
		queue := c.w.Tables.Queue(p)
		if _, rest, is := lines.Cut(queue, lines.First(queue, key)); is {
			c.w.Tables.Put(p, rest)
			c.parked[key] = c.parked[key][1:]
		}
	})
}

// leave: a thread that is parked finds itself by its own key, and is out of its queue.
func (c *crowd) leave(thread int) {
	x := buckets.NewOwn(thread)
	var back *wordfrees.Free
	c.add(thread, func(t *testing.T) bool { return x.Step(c.w) }, func(t *testing.T) bool {
		p, key := x.Got()
		c.has(t, thread, p, key)
		c.w.Cells.Load(api.CellKey + api.Addr(thread))
		queue := c.w.Tables.Queue(p)
		e, rest, is := lines.Cut(queue, lines.Of(queue, thread))
		if is {
			c.w.Tables.Put(p, rest)
			i := slices.Index(c.parked[e.Key], thread)
			c.parked[e.Key] = slices.Delete(slices.Clone(c.parked[e.Key]), i, i+1)
		}
		if left := c.w.Tables.Places(thread); len(left) > 0 || is && e.Key != key {
			t.Fatalf("thread %d looks for itself at %+v by the key %d, and is at %+v, %+v", thread, p, key, left, e)
		}
		back = wordfrees.NewFree(buckets.Lock(p))
		return true
	}, func(*testing.T) bool { return back.Step(c.w) })
}

// move all of a key to another key's queue: their cells say so, step by step.
func (c *crowd) move(thread int, key, to api.Addr) {
	x := pairs.NewPair(thread, key, to)
	var back *pairs.Apart
	var left []lines.Entry
	c.add(thread, func(t *testing.T) bool { return x.Step(c.w) }, func(t *testing.T) bool {
		p, q := x.Got()
		c.has(t, thread, p, key)
		c.has(t, thread, q, to)
		if back == nil && key != to {
			taken, rest := lines.Some(c.w.Tables.Queue(p), key, math.MaxInt)
			c.w.Tables.Put(p, rest)
			c.w.Tables.Put(q, lines.Moved(c.w.Tables.Queue(q), taken, to))
			c.parked[to] = append(c.parked[to], c.parked[key]...)
			c.parked[key], left = nil, taken
		}
		back = pairs.NewApart(p, q)
		if len(left) == 0 {
			c.w.Cells.Load(api.CellKey + api.Addr(thread))
			return true
		}
		c.w.Cells.Store(api.CellKey+api.Addr(left[0].Thread), uint64(to))
		left = left[1:]
		return false
	}, func(*testing.T) bool { return back.Step(c.w) })
}

// step of a thread of a crowd.
func (c *crowd) step(t *testing.T, thread int) {
	t.Helper()
	steps, accesses, want := c.w.Steps(), c.w.Cells.Count(), 0
	if left := c.stages[thread]; len(left) > 0 {
		want = 1
		if left[0](t) {
			c.stages[thread] = left[1:]
		}
	}
	if got := c.w.Steps() - steps; got != want {
		t.Fatalf("thread %d: %d steps at once", thread, got)
	}
	if c.w.Cells.Count() > accesses {
		c.sees(t, thread, c.w.Cells.Last())
	}
	if c.w.Steps()%16 == 0 {
		c.checkQueues(t)
	}
}

// sees what an access of a thread did: who has which lock, and whether the table is replaced by who has all of them.
func (c *crowd) sees(t *testing.T, thread int, a api.Access) {
	t.Helper()
	if a.Addr == 0 && a.Is != a.Was {
		c.replaced(t, thread, a.Was, a.Is)
	}
	if a.Addr < 256 || a.Addr >= 1024 || a.Was%2 == a.Is%2 {
		return
	}
	whose, had := c.locks[a.Addr]
	if a.Is%2 == 1 {
		c.locks[a.Addr] = thread
	} else if delete(c.locks, a.Addr); whose != thread {
		t.Fatalf("thread %d frees %d, and thread %d has it", thread, a.Addr, whose)
	}
	if had != (a.Is%2 == 0) {
		t.Fatalf("thread %d: %+v, had: %v", thread, a, had)
	}
}

// replaced is the table: its word rises, all its locks are had by one, the new one is there in the same step, and its timers begin at the tick.
func (c *crowd) replaced(t *testing.T, thread int, was, is uint64) {
	t.Helper()
	if bitsOf(is) <= bitsOf(was) || is != uint64(bitsOf(is)) || bitsOf(is) > bitsFor(min(c.joined, 64)) || was != c.word {
		t.Fatalf("thread %d: the table's word was %d, and is %d; %d joined", thread, was, is, c.joined)
	}
	for bucket := range 1 << bitsOf(was) {
		if whose, had := c.locks[lockAt(bitsOf(was), bucket)]; !had || whose != thread {
			t.Fatalf("thread %d replaces the table without the lock of bucket %d by %d bits", thread, bucket, bitsOf(was))
		}
	}
	c.word = is
	c.began[bitsOf(is)] = fairs.Timer{At: c.w.Clock.Now(), Fired: c.w.Clock.Now()}
	c.checkQueues(t)
}

// checkQueues: that all who are parked are in the table that counts, where their keys hash to, those of one key in their order, and nobody is elsewhere.
func (c *crowd) checkQueues(t *testing.T) {
	t.Helper()
	if c.w.Cells.Peek(0) != c.word {
		t.Fatalf("the table's word is %d, and was %d", c.w.Cells.Peek(0), c.word)
	}
	is := map[api.Addr][]int{}
	for bits := 2; bits <= 8; bits++ {
		_, grown := c.began[bits]
		if c.w.Tables.Has(bits) != (grown || bits == 2) {
			t.Fatalf("the table of %d bits: %v", bits, grown)
		}
		if !c.w.Tables.Has(bits) {
			continue
		}
		for bucket := range 1 << bits {
			for _, e := range c.w.Tables.Queue(at(bits, bucket)) {
				if at(bits, bucket) != placeOf(e.Key, c.word) {
					t.Fatalf("%+v is in bucket %d by %d bits, and the table's word is %d", e, bucket, bits, c.word)
				}
				is[e.Key] = append(is[e.Key], e.Thread)
			}
		}
	}
	for _, key := range keys() {
		if !slices.Equal(is[key], c.parked[key]) {
			t.Fatalf("key %d: %v, want %v", key, is[key], c.parked[key])
		}
		delete(is, key)
	}
	if len(is) != 0 {
		t.Fatalf("of other keys: %v", is)
	}
}

// goes: may a thread go on, and is there something to do?
func (c *crowd) goes(thread int) bool {
	return len(c.stages[thread]) > 0 && c.w.Permits.Goes(2*thread+1, 0)
}

// may go on: who does.
func (c *crowd) may() []int {
	var out []int
	for thread := range c.stages {
		if c.goes(thread) {
			out = append(out, thread)
		}
	}
	return out
}

// end of a crowd: all go on, by a rule, till nobody does.
func (c *crowd) end(t *testing.T, next func(may []int) int) {
	t.Helper()
	for range 400000 {
		may := c.may()
		if len(may) == 0 {
			c.checkEnd(t)
			return
		}
		c.step(t, next(may))
	}
	t.Fatal("they go on for ever")
}

// checkEnd: that all are through, nobody is asleep, all locks are 0, and the table is great enough.
func (c *crowd) checkEnd(t *testing.T) {
	t.Helper()
	for thread, left := range c.stages {
		if len(left) != 0 || c.w.Permits.Asleep(2*thread+1) {
			t.Fatalf("thread %d has %d stages left, asleep: %v", thread, len(left), c.w.Permits.Asleep(2*thread+1))
		}
	}
	for _, word := range c.w.Cells.Words() {
		if word.Addr >= 256 {
			t.Fatalf("at %d stands %d", word.Addr, word.Value)
		}
	}
	if len(c.locks) != 0 {
		t.Fatalf("locks are had: %v", c.locks)
	}
	if bitsOf(c.word) < bitsFor(c.joined) || c.w.Cells.Peek(1) != c.joined {
		t.Fatalf("%d joined, the cell says %d, and the table's word is %d", c.joined, c.w.Cells.Peek(1), c.word)
	}
	for bits, want := range c.began {
		for bucket := range 1 << bits {
			if got := c.w.Tables.Timer(at(bits, bucket)); got != want {
				t.Fatalf("bucket %d by %d bits has the timer %+v, want %+v", bucket, bits, got, want)
			}
		}
	}
	c.checkQueues(t)
}

// eachOrder of a crowd's steps, in which a thread that may go on stands back for another one so many times at most: made anew for each.
func eachOrder(t *testing.T, backs int, made func() *crowd) int {
	t.Helper()
	orders := 0
	var from func(steps []int, backs int)
	from = func(steps []int, backs int) {
		c := made()
		for _, thread := range steps {
			c.step(t, thread)
		}
		// As long as it is told who is next, the same crowd goes on.
		for may := c.may(); ; may = c.may() {
			if len(may) == 0 {
				orders++
				c.checkEnd(t)
				return
			}
			on := -1
			if len(steps) > 0 && c.goes(steps[len(steps)-1]) {
				on = steps[len(steps)-1]
			}
			for _, thread := range may {
				if on != -1 && on != thread && backs > 0 {
					from(append(slices.Clip(steps), thread), backs-1)
				}
				if on == -1 && thread != may[0] {
					from(append(slices.Clip(steps), thread), backs)
				}
			}
			if on == -1 {
				on = may[0]
			}
			if steps = append(slices.Clip(steps), on); len(steps) > 1000 {
				t.Fatal("they go on for ever")
			}
			c.step(t, on)
		}
	}
	from(nil, backs)
	return orders
}

// P17.2: few threads in each order of their steps, or in each one with few that stand back.
func TestEachOrder(t *testing.T) {
	for name, o := range map[string]struct {
		spin, backs int
		count       uint64 // of those that joined ahead of them
		orders      int    // at the least
		made        func(c *crowd)
	}{
		"two join": {0, 4, 0, 20, func(c *crowd) {
			c.join(1)
			c.join(2)
		}},
		"two join, each to more bits": {0, 4, 1, 500, func(c *crowd) {
			c.join(1)
			c.join(63)
		}},
		"two join, each to more bits, with spins": {2, 3, 1, 300, func(c *crowd) {
			c.join(1)
			c.join(2)
		}},
		"two join, to the same bits": {0, 4, 3, 500, func(c *crowd) {
			c.join(1)
			c.join(2)
		}},
		"three join": {0, 2, 0, 200, func(c *crowd) {
			c.join(1)
			c.join(2)
			c.join(3)
		}},
		"three join, each to more bits": {1, 1, 1, 50, func(c *crowd) {
			c.join(0)
			c.join(1)
			c.join(2)
		}},
		"one joins, one parks": {0, 4, 1, 500, func(c *crowd) {
			c.join(1)
			c.park(2, one)
		}},
		"one joins, one parks, with a spin": {1, 3, 4, 200, func(c *crowd) {
			c.join(1)
			c.park(2, 0)
		}},
		"one joins, two park at one key": {0, 2, 1, 200, func(c *crowd) {
			c.join(1)
			c.park(2, one)
			c.park(3, one)
		}},
		"one joins, one parks, one takes it": {0, 2, 1, 200, func(c *crowd) {
			c.join(1)
			c.park(2, one)
			c.take(3, one)
		}},
		"one joins, one parks and leaves": {0, 3, 1, 200, func(c *crowd) {
			c.join(1)
			c.park(2, other)
			c.leave(2)
		}},
		"one joins, one parks, and is moved": {0, 2, 1, 200, func(c *crowd) {
			c.join(1)
			c.park(2, one)
			c.move(3, one, other)
		}},
		"one joins, one takes a pair": {0, 4, 1, 500, func(c *crowd) {
			c.join(1)
			c.move(2, other, one)
		}},
		"two join, one parks": {0, 2, 1, 200, func(c *crowd) {
			c.join(1)
			c.join(2)
			c.park(3, one)
		}},
		"two join, one parks and leaves": {0, 1, 1, 50, func(c *crowd) {
			c.join(1)
			c.park(3, one)
			c.leave(3)
			c.join(2)
		}},
	} {
		t.Run(name, func(t *testing.T) {
			orders := eachOrder(t, o.backs, func() *crowd {
				c := newCrowd(worldOf(t, o.spin, o.count, 2))
				o.made(c)
				return c
			})
			if orders < o.orders {
				t.Errorf("%d orders", orders)
			}
		})
	}
}

// keys of crowds: several in each bucket of small tables.
func keys() []api.Addr {
	return []api.Addr{one, other, neighbour, 0, 1, 1024, 1056, 1057, 1160, 1164, 1 << 31, math.MaxUint32}
}

// give a thread something to do, by a draw: among so many keys of a crowd.
func (c *crowd) give(d *draw, thread, many int) {
	key := func() api.Addr { return keys()[d.below(many)] }
	switch d.below(10) {
	case 0, 1, 2, 3, 4:
		c.park(thread, key())
	case 5, 6:
		c.take(thread, key())
	case 7:
		c.leave(thread)
	default:
		c.move(thread, key(), key())
	}
}

// drawn crowd: its threads, and what they do, by a draw; each one joins once.
func drawn(t *testing.T, d *draw, run, most, each int) (*crowd, []int) {
	t.Helper()
	var threads []int
	for i := range 1 + d.below(most) {
		threads = append(threads, (i*37+run)%64)
	}
	count := uint64(0)
	if d.below(3) == 0 {
		count = counts()[15+d.below(64)]
	}
	c := newCrowd(worldOf(t, d.below(4), count, []uint64{2, 0, 9, upper + 3}[d.below(4)]))
	many := 1 + d.below(len(keys()))
	for _, thread := range threads {
		ahead := d.below(1 + each)
		for i := range each {
			if i == ahead {
				c.join(thread)
			}
			c.give(d, thread, many)
		}
		if ahead == each {
			c.join(thread)
		}
	}
	return c, threads
}

// P17.2: many threads, in many orders; those that are done, or asleep, are asked, too.
func TestManyOrders(t *testing.T) {
	for run := range 500 {
		d := draw(run)
		most := 64
		if run%4 > 0 {
			most = 6
		}
		c, threads := drawn(t, &d, run, most, 4)
		for range d.below(8 * len(threads)) {
			c.step(t, threads[d.below(len(threads))])
			if d.below(9) == 0 {
				c.w.Clock.Tick(1)
			}
		}
		c.end(t, func(may []int) int { return may[d.below(len(may))] })
		checkQuiet(t, c.w, c.w.Spin)
	}
}

// P17.2: many orders in which a thread takes several steps ahead of others.
func TestRuns(t *testing.T) {
	for run := range 800 {
		d := draw(run)
		c, _ := drawn(t, &d, run, 10, 5)
		on := -1
		c.end(t, func(may []int) int {
			if !slices.Contains(may, on) || d.below(8) == 0 {
				on = may[d.below(len(may))]
			}
			return on
		})
	}
}

// P17.2: in rounds, a step each; and one thread always ahead of all others, or behind them.
func TestInRounds(t *testing.T) {
	for run := range 150 {
		d := draw(run)
		round, _ := drawn(t, &d, run, 20, 3)
		on := -1
		round.end(t, func(may []int) int {
			on++
			return may[on%len(may)]
		})
		ahead, _ := drawn(t, &d, run, 20, 3)
		ahead.end(t, func(may []int) int { return may[0] })
		behind, _ := drawn(t, &d, run, 20, 3)
		behind.end(t, func(may []int) int { return may[len(may)-1] })
	}
}

// P17.2: all threads join at once, while they park: from nobody on, the table's word is just that of all of them in the end.
func TestAllAtOnce(t *testing.T) {
	for run, many := range []int{64, 64, 43, 42, 22, 21, 11, 10, 6, 5, 3, 2, 1} {
		d := draw(run)
		c := newCrowd(world(t, run%3))
		for thread := range many {
			c.park(thread, keys()[thread%len(keys())])
			c.join(thread)
			c.leave(thread)
			c.park(thread, keys()[thread*thread%len(keys())])
		}
		c.end(t, func(may []int) int { return may[d.below(len(may))] })
		if got := c.w.Cells.Peek(0); got != uint64(bitsFor(uint64(many))) {
			t.Errorf("%d joined: the table's word is %d", many, got)
		}
		parked := 0
		for _, key := range keys() {
			parked += len(c.parked[key])
		}
		if parked != many {
			t.Errorf("%d are parked, of %d", parked, many)
		}
	}
}

// P17.2: who waits for a lock of the old table looks again, and has the one of the new table.
func TestWaitsForAnOldOne(t *testing.T) {
	c := newCrowd(worldOf(t, 0, 1, 2))
	c.join(9)
	for range 6 {
		c.step(t, 9)
	}
	for thread, key := range []api.Addr{one, other, 0, 1} {
		c.park(thread, key)
		for range 8 {
			c.step(t, thread)
		}
		if !c.w.Permits.Asleep(2*thread+1) || c.goes(thread) {
			t.Fatalf("thread %d does not wait", thread)
		}
	}
	for len(c.stages[9]) > 0 {
		c.step(t, 9)
	}
	c.end(t, func(may []int) int { return may[0] })
	for thread, key := range []api.Addr{one, other, 0, 1} {
		if got := c.w.Tables.Places(thread); len(got) != 1 || got[0] != placeOf(key, 3) {
			t.Errorf("thread %d is at %+v", thread, got)
		}
	}
}
