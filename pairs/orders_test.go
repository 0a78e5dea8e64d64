package pairs

import (
	"math"
	"slices"
	"testing"

	"layby/api"
	"layby/buckets"
	"layby/tables"
	"layby/wordfrees"
	"layby/wordlocks"
	"layby/worlds"
)

// stage of what a thread does: a step of it; is it over?
type stage func(t *testing.T) bool

// crowd: threads that take pairs of keys, and let go of them, in a world.
type crowd struct {
	w      *worlds.World
	stages [64][]stage      // that threads have left
	locks  map[api.Addr]int // which thread has which lock
	had    [64]int          // how many pairs a thread had
}

func newCrowd(w *worlds.World) *crowd {
	return &crowd{w: w, locks: map[api.Addr]int{}}
}

// add stages to what a thread has left.
func (c *crowd) add(thread int, stages ...stage) {
	c.stages[thread] = append(c.stages[thread], stages...)
}

// gets a lock: nobody has it, and its word says that somebody has it.
func (c *crowd) gets(t *testing.T, lock api.Addr, thread int) {
	t.Helper()
	if whose, had := c.locks[lock]; had {
		t.Fatalf("thread %d has %d, and thread %d has", thread, lock, whose)
	}
	c.locks[lock] = thread
}

// pair of keys is taken, something is done there, and both are let go.
func (c *crowd) pair(thread int, key, second api.Addr, there ...stage) {
	x := NewPair(thread, key, second)
	var back *Apart
	c.add(thread, func(t *testing.T) bool {
		if !x.Step(c.w) {
			return false
		}
		p, q := x.Got()
		// The table that counts stays as long as one of its locks is had.
		if word := c.w.Cells.Peek(0); p != placeOf(key, word) || q != placeOf(second, word) {
			t.Fatalf("keys %d, %d: got %+v, %+v by %d", key, second, p, q, word)
		}
		c.gets(t, lockAt(p), thread)
		if q != p {
			c.gets(t, lockAt(q), thread)
		}
		c.had[thread]++
		back = NewApart(p, q)
		return true
	})
	c.add(thread, there...)
	c.add(thread, func(*testing.T) bool {
		// The first step gives back the first one; the other one is had till its word says that nobody has it.
		p, q := x.Got()
		c.drops(lockAt(p), thread)
		over := back.Step(c.w)
		if c.w.Cells.Peek(lockAt(q))%2 == 0 {
			c.drops(lockAt(q), thread)
		}
		return over
	})
}

// drops a lock, if it is a thread's.
func (c *crowd) drops(lock api.Addr, thread int) {
	if whose, had := c.locks[lock]; had && whose == thread {
		delete(c.locks, lock)
	}
}

// enter a key's bucket alone, and leave it.
func (c *crowd) enter(thread int, key api.Addr) {
	x := buckets.NewEnter(thread, key)
	var back *wordfrees.Free
	c.add(thread, func(t *testing.T) bool {
		over := x.Step(c.w)
		if over {
			c.gets(t, lockAt(x.Got()), thread)
			back = wordfrees.NewFree(lockAt(x.Got()))
		}
		return over
	}, func(*testing.T) bool {
		c.drops(lockAt(x.Got()), thread)
		return back.Step(c.w)
	})
}

// rest: a thread takes a step that has to do with no lock.
func (c *crowd) rest(thread int) stage {
	return func(*testing.T) bool {
		c.w.Cells.Load(api.CellKey + api.Addr(thread))
		return true
	}
}

// keeper replaces the table: it takes all locks of the one that counts.
type keeper struct {
	c      *crowd
	thread int
	to     uint64
	line   int
	k      uint64
	at     int
	under  stepper
}

// keep: the table is replaced by one of another word.
func (c *crowd) keep(thread int, to uint64) {
	k := &keeper{c: c, thread: thread, to: to}
	c.add(thread, k.step)
}

// lock of the bucket that is next.
func (k *keeper) lock() api.Addr {
	return api.Addr(256 + 1<<bitsOf(k.k) + k.at)
}

// step of a keeper.
func (k *keeper) step(t *testing.T) bool {
	t.Helper()
	cells := k.c.w.Cells
	switch k.line {
	case 0:
		k.k, k.at, k.line = cells.Load(0), 0, 1
		k.under = wordlocks.NewLock(k.thread, k.lock())
	case 1:
		if k.under.Step(k.c.w) {
			k.c.gets(t, k.lock(), k.thread)
			k.at++
			k.under = wordlocks.NewLock(k.thread, k.lock())
		}
		if k.at == 1<<bitsOf(k.k) {
			k.line = 2
		}
	case 2:
		k.line, k.at, k.under = 3, 0, nil
		if cells.Load(0) != k.k {
			k.line = 4
		}
	case 3:
		cells.Store(0, k.to)
		k.line = 5
	default:
		return k.giveBack() && k.line == 5
	}
	return false
}

// giveBack all locks: is that over? If the table was not the one that counts, the keeper begins anew.
func (k *keeper) giveBack() bool {
	if k.under == nil {
		k.c.drops(k.lock(), k.thread)
		k.under = wordfrees.NewFree(k.lock())
	}
	if k.under.Step(k.c.w) {
		k.at++
		k.under = nil
	}
	over := k.at == 1<<bitsOf(k.k)
	if over && k.line == 4 {
		k.line = 0
	}
	return over
}

// step of a thread of a crowd.
func (c *crowd) step(t *testing.T, thread int) {
	t.Helper()
	steps, want := c.w.Steps(), 0
	if left := c.stages[thread]; len(left) > 0 {
		want = 1
		if left[0](t) {
			c.stages[thread] = left[1:]
		}
	}
	if got := c.w.Steps() - steps; got != want {
		t.Fatalf("thread %d: %d steps at once", thread, got)
	}
	for lock, whose := range c.locks {
		if word := c.w.Cells.Peek(lock); word%2 != 1 {
			t.Fatalf("thread %d has %d, and its word is %d", whose, lock, word)
		}
	}
}

// goes: may a thread go on, and is there something to do?
func (c *crowd) goes(thread int) bool {
	return len(c.stages[thread]) > 0 && c.w.Permits.Goes(2*thread+1, 0)
}

// may go on: who does.
func (c *crowd) may() []int {
	var out []int
	for thread := range c.stages {
		if c.goes(thread) {
			out = append(out, thread)
		}
	}
	return out
}

// end of a crowd: all go on, by a rule, till nobody does.
func (c *crowd) end(t *testing.T, next func(may []int) int) {
	t.Helper()
	for range 400000 {
		may := c.may()
		if len(may) == 0 {
			c.checkEnd(t)
			return
		}
		c.step(t, next(may))
	}
	t.Fatal("they go on for ever")
}

// checkEnd: that all are through, nobody is asleep, and all locks are 0.
func (c *crowd) checkEnd(t *testing.T) {
	t.Helper()
	for thread, left := range c.stages {
		if len(left) != 0 || c.w.Permits.Asleep(2*thread+1) {
			t.Fatalf("thread %d has %d stages left, asleep: %v", thread, len(left), c.w.Permits.Asleep(2*thread+1))
		}
	}
	for _, word := range c.w.Cells.Words() {
		if word.Addr >= 256 {
			t.Fatalf("at %d stands %d", word.Addr, word.Value)
		}
	}
	if len(c.locks) != 0 {
		t.Fatalf("locks are had: %v", c.locks)
	}
}

// eachOrder of a crowd's steps, in which a thread that may go on stands back for another one so many times at most: made anew for each.
func eachOrder(t *testing.T, backs int, made func() *crowd) int {
	t.Helper()
	orders := 0
	var from func(steps []int, backs int)
	from = func(steps []int, backs int) {
		c := made()
		for _, thread := range steps {
			c.step(t, thread)
		}
		may := c.may()
		if len(may) == 0 {
			orders++
			c.checkEnd(t)
			return
		}
		on := -1
		if len(steps) > 0 && c.goes(steps[len(steps)-1]) {
			on = steps[len(steps)-1]
		}
		for _, thread := range may {
			if on == -1 || on == thread {
				from(append(slices.Clip(steps), thread), backs)
			} else if backs > 0 {
				from(append(slices.Clip(steps), thread), backs-1)
			}
		}
	}
	from(nil, backs)
	return orders
}

// P16.3: few threads in each order of their steps, or in each one with few that stand back.
func TestEachOrder(t *testing.T) {
	for name, o := range map[string]struct {
		spin, backs int
		orders      int // at the least
		made        func(c *crowd)
	}{
		"two, in both orders": {0, 5, 1000, func(c *crowd) {
			c.pair(1, one, other)
			c.pair(2, other, one)
		}},
		"two, in both orders, with spins": {2, 4, 500, func(c *crowd) {
			c.pair(1, one, other)
			c.pair(63, other, neighbour)
		}},
		"two of one bucket": {0, 6, 100, func(c *crowd) {
			c.pair(1, one, neighbour)
			c.pair(2, neighbour, one)
		}},
		"two of one key": {1, 6, 100, func(c *crowd) {
			c.pair(1, one, one)
			c.pair(2, one, one)
		}},
		"two, one lock of both": {0, 4, 200, func(c *crowd) {
			c.pair(1, one, other)
			c.pair(2, 0, one)
		}},
		"two, no lock of both": {0, 99, 500, func(c *crowd) {
			c.pair(1, one, 1)
			c.pair(2, other, 0)
		}},
		"three in a ring": {0, 2, 200, func(c *crowd) {
			c.pair(1, one, other)
			c.pair(2, other, 0)
			c.pair(3, 0, one)
		}},
		"three, in both orders": {1, 2, 200, func(c *crowd) {
			c.pair(1, one, other)
			c.pair(2, other, one)
			c.pair(3, neighbour, other)
		}},
		"four in a ring": {0, 1, 50, func(c *crowd) {
			c.pair(1, one, other)
			c.pair(2, other, 0)
			c.pair(3, 0, 1)
			c.pair(4, 1, one)
		}},
		"two, twice each": {0, 3, 300, func(c *crowd) {
			c.pair(1, one, other, c.rest(1))
			c.pair(1, other, one)
			c.pair(2, other, neighbour)
			c.pair(2, one, one, c.rest(2))
		}},
		"a pair, and who enters each": {0, 2, 200, func(c *crowd) {
			c.pair(1, one, other)
			c.enter(2, one)
			c.enter(3, other)
		}},
		"a pair, and a keeper": {0, 3, 200, func(c *crowd) {
			c.pair(1, one, other)
			c.keep(2, 3)
		}},
		"a pair of one bucket, and a keeper": {1, 3, 200, func(c *crowd) {
			c.pair(1, one, neighbour)
			c.keep(2, 8)
		}},
		"two pairs, and a keeper": {0, 1, 50, func(c *crowd) {
			c.pair(1, one, other)
			c.pair(3, other, one)
			c.keep(2, 9)
		}},
	} {
		t.Run(name, func(t *testing.T) {
			orders := eachOrder(t, o.backs, func() *crowd {
				c := newCrowd(world(t, o.spin))
				o.made(c)
				return c
			})
			if orders < o.orders {
				t.Errorf("%d orders", orders)
			}
		})
	}
}

// keys of crowds: several in each bucket of small tables.
func keys() []api.Addr {
	return []api.Addr{one, other, 0, neighbour, 1, 1024, 1056, 1057, 1160, 1164, 1 << 31, math.MaxUint32}
}

// drawn crowd: its threads, and what they do, by a draw; with keepers of the table, or without.
func drawn(t *testing.T, d *draw, run, most, each int, kept bool) (*crowd, []int) {
	t.Helper()
	var threads []int
	for i := range 1 + d.below(most) {
		threads = append(threads, (i*37+run)%64)
	}
	c := newCrowd(world(t, d.below(4)))
	many := 1 + d.below(len(keys()))
	key := func() api.Addr { return keys()[d.below(many)] }
	if d.below(3) == 0 {
		c.w.Cells.Store(0, uint64(2+d.below(7)))
	}
	for _, thread := range threads {
		for range 1 + d.below(each) {
			switch n := d.below(12); {
			case n < 6:
				c.pair(thread, key(), key())
			case n < 9:
				c.pair(thread, key(), key(), c.rest(thread), c.rest(thread))
			case n == 9 && kept:
				c.keep(thread, []uint64{2, 3, 4, 5, 0, 1, 9, upper + 3, 3}[d.below(9)])
			default:
				c.enter(thread, key())
			}
		}
	}
	return c, threads
}

// P16.3: many threads, in many orders; those that are done, or asleep, are asked, too.
func TestManyOrders(t *testing.T) {
	for run := range 600 {
		d := draw(run)
		most := 64
		if run%4 > 0 {
			most = 6
		}
		c, threads := drawn(t, &d, run, most, 5, run%3 == 0)
		for range d.below(8 * len(threads)) {
			c.step(t, threads[d.below(len(threads))])
		}
		c.end(t, func(may []int) int { return may[d.below(len(may))] })
		checkQuiet(t, c.w, c.w.Spin)
	}
}

// P16.3: many orders in which a thread takes several steps ahead of others.
func TestRuns(t *testing.T) {
	for run := range 600 {
		d := draw(run)
		c, _ := drawn(t, &d, run, 8, 6, run%3 == 0)
		on := -1
		c.end(t, func(may []int) int {
			if !slices.Contains(may, on) || d.below(6) == 0 {
				on = may[d.below(len(may))]
			}
			return on
		})
	}
}

// P16.3: in rounds, a step each; and one thread always ahead of all others, or behind them.
func TestInRounds(t *testing.T) {
	for run := range 100 {
		d := draw(run)
		round, _ := drawn(t, &d, run, 20, 4, run%3 == 0)
		on := -1
		round.end(t, func(may []int) int {
			on++
			return may[on%len(may)]
		})
		ahead, _ := drawn(t, &d, run, 20, 4, run%3 == 0)
		ahead.end(t, func(may []int) int { return may[0] })
		behind, _ := drawn(t, &d, run, 20, 4, run%3 == 0)
		behind.end(t, func(may []int) int { return may[len(may)-1] })
	}
}

// P16.3: all threads take the same two keys, half of them the other way round, each one several times, and each has them as often.
func TestAllOfThem(t *testing.T) {
	for run := range 8 {
		d := draw(run)
		c := newCrowd(world(t, run%3))
		for thread := range 64 {
			for i := range 4 {
				if (thread+i)%2 == 0 {
					c.pair(thread, one, other, c.rest(thread))
				} else {
					c.pair(thread, other, one)
				}
			}
		}
		c.end(t, func(may []int) int { return may[d.below(len(may))] })
		for thread, had := range c.had {
			if had != 4 {
				t.Errorf("thread %d had %d pairs", thread, had)
			}
		}
	}
}

// P16.3: who waits for the other one keeps the first one, and nobody who waits for the first one has the other one.
func TestWaitsInOrder(t *testing.T) {
	w := world(t, 0)
	x, y, z := NewPair(1, one, other), NewPair(2, other, one), buckets.NewEnter(3, one)
	for !z.Step(w) {
	}
	for range 10 {
		x.Step(w)
	}
	for range 10 {
		y.Step(w)
	}
	if w.Permits.Goes(3, 0) || w.Permits.Goes(5, 0) || w.Cells.Peek(263) != 4*2+1 || w.Cells.Peek(261) != 4*3+1 {
		t.Fatalf("locks %d, %d", w.Cells.Peek(261), w.Cells.Peek(263))
	}
	for back := wordfrees.NewFree(263); !back.Step(w); {
	}
	if !w.Permits.Goes(3, 0) || w.Permits.Goes(5, 0) || x.Over() {
		t.Error("who waits for the other one is not woken")
	}
	for !x.Step(w) {
	}
	for back := NewApart(x.Got()); !back.Step(w); {
	}
	if !w.Permits.Goes(5, 0) {
		t.Error("who waits for the first one is not woken")
	}
	for !y.Step(w) {
	}
	checkGot(t, x, one, other, 2)
	checkGot(t, y, other, one, 2)
	if p, _ := y.Got(); p != (tables.Place{Bits: 2, Bucket: 1}) {
		t.Errorf("%+v", p)
	}
}
