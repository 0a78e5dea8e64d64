package buckets

import (
	"math"
	"slices"
	"testing"

	"layby/api"
	"layby/wordfrees"
	"layby/wordlocks"
	"layby/worlds"
)

// stage of what a thread does: a step of it; is it over?
type stage func(t *testing.T) bool

// held: who is through with which key, and so has its lock.
type held struct {
	thread int
	key    api.Addr
	own    bool // the key is the one at which the thread is parked
	all    bool // it has all locks of a table: no key
}

// crowd: threads that enter buckets, find their own ones, store keys, and replace the table, in a world.
type crowd struct {
	w      *worlds.World
	stages [64][]stage // that threads have left
	locks  map[api.Addr]held
}

func newCrowd(w *worlds.World) *crowd {
	return &crowd{w: w, locks: map[api.Addr]held{}}
}

// add stages to what a thread has left.
func (c *crowd) add(thread int, stages ...stage) {
	c.stages[thread] = append(c.stages[thread], stages...)
}

// gets a lock: nobody has it.
func (c *crowd) gets(t *testing.T, lock api.Addr, by held) {
	t.Helper()
	if whose, had := c.locks[lock]; had {
		t.Fatalf("thread %d has %d, and thread %d has", by.thread, lock, whose.thread)
	}
	c.locks[lock] = by
}

// free a lock: the first step of it gives it back.
func (c *crowd) free(x *wordfrees.Free, lock api.Addr) bool {
	delete(c.locks, lock)
	return x.Step(c.w)
}

// enter a key's bucket, do something there, and leave it.
func (c *crowd) enter(thread int, key api.Addr, there ...stage) {
	x := NewEnter(thread, key)
	var back *wordfrees.Free
	c.add(thread, func(t *testing.T) bool {
		over := x.Step(c.w)
		if over {
			c.gets(t, Lock(x.Got()), held{thread: thread, key: key})
			back = wordfrees.NewFree(Lock(x.Got()))
		}
		return over
	})
	c.add(thread, there...)
	c.add(thread, func(*testing.T) bool { return c.free(back, Lock(x.Got())) })
}

// park as far as the key is stored: under the lock of its bucket.
func (c *crowd) park(thread int, key uint64) {
	c.enter(thread, api.Addr(key%upper), func(*testing.T) bool {
		c.w.Cells.Store(api.Addr(64+thread), key)
		return true
	})
}

// own bucket of a thread is found, and left.
func (c *crowd) own(thread int) {
	x := NewOwn(thread)
	var back *wordfrees.Free
	c.add(thread, func(t *testing.T) bool {
		over := x.Step(c.w)
		if over {
			p, key := x.Got()
			c.gets(t, Lock(p), held{thread: thread, key: key, own: true})
			back = wordfrees.NewFree(Lock(p))
		}
		return over
	})
	c.add(thread, func(*testing.T) bool {
		p, _ := x.Got()
		return c.free(back, Lock(p))
	})
}

// move a thread from a key to another one, if it is there: under the lock of the first one's bucket.
func (c *crowd) move(thread, whose int, from, to api.Addr) {
	c.enter(thread, from, func(*testing.T) bool {
		cell := api.Addr(64 + whose)
		if api.Addr(c.w.Cells.Peek(cell)%upper) == from {
			c.w.Cells.Store(cell, uint64(to))
		} else {
			c.w.Cells.Load(cell)
		}
		return true
	})
}

// keeper replaces the table: it takes all locks of the one that counts.
type keeper struct {
	c      *crowd
	thread int
	to     uint64
	line   int
	k      uint64
	at     int
	under  stepper
}

// keep: the table is replaced by one of another word.
func (c *crowd) keep(thread int, to uint64) {
	k := &keeper{c: c, thread: thread, to: to}
	c.add(thread, k.step)
}

// lock of the bucket that is next.
func (k *keeper) lock() api.Addr {
	return api.Addr(256 + 1<<bitsOf(k.k) + k.at)
}

// step of a keeper.
func (k *keeper) step(t *testing.T) bool {
	t.Helper()
	cells := k.c.w.Cells
	switch k.line {
	case 0:
		k.k, k.at, k.line = cells.Load(0), 0, 1
		k.under = wordlocks.NewLock(k.thread, k.lock())
	case 1:
		if k.under.Step(k.c.w) {
			k.c.gets(t, k.lock(), held{thread: k.thread, all: true})
			k.at++
			k.under = wordlocks.NewLock(k.thread, k.lock())
		}
		if k.at == 1<<bitsOf(k.k) {
			k.line = 2
		}
	case 2:
		k.line = 3
		if cells.Load(0) != k.k {
			k.line, k.at, k.under = 4, 0, nil
		}
	case 3:
		cells.Store(0, k.to)
		k.line, k.at, k.under = 5, 0, nil
	default:
		return k.giveBack() && k.line == 5
	}
	return false
}

// giveBack all locks: is that over? If the table was not the one that counts, the keeper begins anew.
func (k *keeper) giveBack() bool {
	if k.under == nil {
		k.under = wordfrees.NewFree(k.lock())
	}
	if k.c.free(k.under.(*wordfrees.Free), k.lock()) {
		k.at++
		k.under = nil
	}
	over := k.at == 1<<bitsOf(k.k)
	if over && k.line == 4 {
		k.line = 0
	}
	return over
}

// step of a thread of a crowd.
func (c *crowd) step(t *testing.T, thread int) {
	t.Helper()
	steps, want := c.w.Steps(), 0
	if left := c.stages[thread]; len(left) > 0 {
		want = 1
		if left[0](t) {
			c.stages[thread] = left[1:]
		}
	}
	if got := c.w.Steps() - steps; got != want {
		t.Fatalf("thread %d: %d steps at once", thread, got)
	}
	c.check(t)
}

// check that whoever is through has the lock of where its key hashes to in the table that counts.
func (c *crowd) check(t *testing.T) {
	t.Helper()
	for lock, by := range c.locks {
		if !by.all && lockOf(by.key, c.w.Cells.Peek(0)) != lock {
			t.Fatalf("thread %d has %d, and its key %d is at %d by %d", by.thread, lock, by.key, lockOf(by.key, c.w.Cells.Peek(0)), c.w.Cells.Peek(0))
		}
		if says := c.w.Cells.Peek(api.Addr(64 + by.thread)); by.own && says%upper != uint64(by.key) {
			t.Fatalf("thread %d has %d for the key %d, and it is parked at %d", by.thread, lock, by.key, says)
		}
		if word := c.w.Cells.Peek(lock); word%2 != 1 {
			t.Fatalf("thread %d has %d, and its word is %d", by.thread, lock, word)
		}
	}
}

// goes: may a thread go on, and is there something to do?
func (c *crowd) goes(thread int) bool {
	return len(c.stages[thread]) > 0 && c.w.Permits.Goes(2*thread+1, 0)
}

// may go on: who does.
func (c *crowd) may() []int {
	var out []int
	for thread := range c.stages {
		if c.goes(thread) {
			out = append(out, thread)
		}
	}
	return out
}

// end of a crowd: all go on, by a rule, till nobody does.
func (c *crowd) end(t *testing.T, next func(may []int) int) {
	t.Helper()
	for range 400000 {
		may := c.may()
		if len(may) == 0 {
			c.checkEnd(t)
			return
		}
		c.step(t, next(may))
	}
	t.Fatal("they go on for ever")
}

// checkEnd: that all are through, nobody is asleep, and all locks are 0.
func (c *crowd) checkEnd(t *testing.T) {
	t.Helper()
	for thread, left := range c.stages {
		if len(left) != 0 || c.w.Permits.Asleep(2*thread+1) {
			t.Fatalf("thread %d has %d stages left, asleep: %v", thread, len(left), c.w.Permits.Asleep(2*thread+1))
		}
	}
	for _, word := range c.w.Cells.Words() {
		if word.Addr >= 256 {
			t.Fatalf("at %d stands %d", word.Addr, word.Value)
		}
	}
	if len(c.locks) != 0 {
		t.Fatalf("locks are had: %v", c.locks)
	}
}

// eachOrder of a crowd's steps, in which a thread that may go on stands back for another one so many times at most: made anew for each.
func eachOrder(t *testing.T, backs int, made func() *crowd) int {
	t.Helper()
	orders := 0
	var from func(steps []int, backs int)
	from = func(steps []int, backs int) {
		c := made()
		for _, thread := range steps {
			c.step(t, thread)
		}
		may := c.may()
		if len(may) == 0 {
			orders++
			c.checkEnd(t)
			return
		}
		on := -1
		if len(steps) > 0 && c.goes(steps[len(steps)-1]) {
			on = steps[len(steps)-1]
		}
		for _, thread := range may {
			if on == -1 || on == thread {
				from(append(slices.Clip(steps), thread), backs)
			} else if backs > 0 {
				from(append(slices.Clip(steps), thread), backs-1)
			}
		}
	}
	from(nil, backs)
	return orders
}

// P15.4: few threads in each order of their steps, or in each one with few that stand back.
func TestEachOrder(t *testing.T) {
	for name, o := range map[string]struct {
		spin, backs int
		orders      int // at the least
		made        func(c *crowd)
	}{
		"two of one bucket": {0, 99, 50, func(c *crowd) {
			c.enter(1, one)
			c.enter(2, neighbour)
		}},
		"two of two buckets": {1, 99, 70, func(c *crowd) {
			c.enter(1, one)
			c.enter(63, other)
		}},
		"three of one bucket": {0, 2, 100, func(c *crowd) {
			c.enter(1, one)
			c.enter(2, one)
			c.enter(3, neighbour)
		}},
		"one, and a keeper": {0, 6, 500, func(c *crowd) {
			c.enter(1, one)
			c.keep(2, 3)
		}},
		"one, and a keeper of the same bits": {1, 4, 300, func(c *crowd) {
			c.enter(1, one)
			c.keep(2, 9)
		}},
		"one, and a keeper who brings the first one back": {0, 3, 100, func(c *crowd) {
			c.enter(1, one)
			c.keep(2, 3)
			c.keep(2, 2)
		}},
		"two, and a keeper": {0, 2, 100, func(c *crowd) {
			c.enter(1, one)
			c.enter(3, neighbour)
			c.keep(2, 3)
		}},
		"an own, and a keeper": {0, 4, 500, func(c *crowd) {
			c.w.Cells.Store(65, uint64(other))
			c.own(1)
			c.keep(2, 4)
		}},
		"an own, and one who moves it": {0, 99, 500, func(c *crowd) {
			c.w.Cells.Store(65, uint64(one))
			c.own(1)
			c.move(2, 1, one, other)
		}},
		"an own, moved there and back": {1, 4, 500, func(c *crowd) {
			c.w.Cells.Store(65, uint64(one))
			c.own(1)
			c.move(2, 1, one, other)
			c.move(2, 1, other, one)
		}},
		"an own, one who moves it, and a keeper": {0, 2, 200, func(c *crowd) {
			c.w.Cells.Store(65, upper+uint64(one))
			c.own(1)
			c.move(2, 1, one, other)
			c.keep(3, 3)
		}},
		"two owns of one bucket, and who enters it": {0, 2, 100, func(c *crowd) {
			c.w.Cells.Store(65, uint64(one))
			c.w.Cells.Store(66, uint64(neighbour))
			c.own(1)
			c.own(2)
			c.enter(3, one)
		}},
		"who parks, and then finds its own": {0, 3, 100, func(c *crowd) {
			c.park(1, uint64(one))
			c.own(1)
			c.move(2, 1, one, neighbour)
		}},
		"two keepers, and one": {0, 1, 50, func(c *crowd) {
			c.keep(1, 3)
			c.keep(2, 0)
			c.enter(3, one)
		}},
	} {
		t.Run(name, func(t *testing.T) {
			orders := eachOrder(t, o.backs, func() *crowd {
				c := newCrowd(world(t, o.spin))
				o.made(c)
				return c
			})
			if orders < o.orders {
				t.Errorf("%d orders", orders)
			}
		})
	}
}

// keys of crowds: several in each bucket of small tables.
func keys() []api.Addr {
	return []api.Addr{one, neighbour, other, 0, 1, 1024, 1056, 1057, 1160, 1164, 1 << 31, math.MaxUint32}
}

// give a thread something to do, by a draw: among so many keys of a crowd.
func (c *crowd) give(d *draw, thread, many int, threads []int) {
	key := func() api.Addr { return keys()[d.below(many)] }
	switch d.below(12) {
	case 0, 1, 2, 3:
		c.enter(thread, key())
	case 4, 5, 6:
		c.own(thread)
	case 7:
		c.park(thread, uint64(key())+upper*uint64(d.below(3)))
	case 8, 9, 10:
		whose, from := threads[d.below(len(threads))], key()
		// Mostly from where it is, as far as is known by now.
		if d.below(3) > 0 {
			from = api.Addr(c.w.Cells.Peek(api.Addr(64+whose)) % upper)
		}
		c.move(thread, whose, from, key())
	default:
		c.keep(thread, []uint64{2, 3, 4, 5, 0, 1, 9, upper + 3, 3}[d.below(9)])
	}
}

// drawn crowd: its threads, and what they do, by a draw.
func drawn(t *testing.T, d *draw, run, most, each int) (*crowd, []int) {
	t.Helper()
	var threads []int
	for i := range 1 + d.below(most) {
		threads = append(threads, (i*37+run)%64)
	}
	c := newCrowd(world(t, d.below(4)))
	many := 1 + d.below(len(keys()))
	for _, thread := range threads {
		c.w.Cells.Store(api.Addr(64+thread), uint64(keys()[d.below(many)]))
		for range 1 + d.below(each) {
			c.give(d, thread, many, threads)
		}
	}
	return c, threads
}

// P15.4: many threads, in many orders; those that are done, or asleep, are asked, too.
func TestManyOrders(t *testing.T) {
	for run := range 400 {
		d := draw(run)
		most := 64
		if run%4 > 0 {
			most = 6
		}
		c, threads := drawn(t, &d, run, most, 5)
		for range d.below(8 * len(threads)) {
			c.step(t, threads[d.below(len(threads))])
		}
		c.end(t, func(may []int) int { return may[d.below(len(may))] })
		checkQuiet(t, c.w, c.w.Spin)
	}
}

// P15.4: many orders in which a thread takes several steps ahead of others.
func TestRuns(t *testing.T) {
	for run := range 600 {
		d := draw(run)
		c, _ := drawn(t, &d, run, 8, 6)
		on := -1
		c.end(t, func(may []int) int {
			if !slices.Contains(may, on) || d.below(6) == 0 {
				on = may[d.below(len(may))]
			}
			return on
		})
	}
}

// P15.4: in rounds, a step each; and one thread always ahead of all others.
func TestInRounds(t *testing.T) {
	for run := range 100 {
		d := draw(run)
		round, _ := drawn(t, &d, run, 20, 4)
		on := -1
		round.end(t, func(may []int) int {
			on++
			return may[on%len(may)]
		})
		ahead, _ := drawn(t, &d, run, 20, 4)
		ahead.end(t, func(may []int) int { return may[0] })
		behind, _ := drawn(t, &d, run, 20, 4)
		behind.end(t, func(may []int) int { return may[len(may)-1] })
	}
}

// P15.4: a keeper of each table, up to the greatest one, while threads enter its buckets.
func TestEachTable(t *testing.T) {
	for run := range 4 {
		d := draw(run)
		c := newCrowd(world(t, run))
		for word := uint64(3); word <= 8; word++ {
			c.keep(0, word)
		}
		for i := range 300 {
			thread := 1 + i%40
			c.w.Cells.Store(api.Addr(64+thread), uint64(i))
			c.enter(thread, api.Addr(i*i))
			c.own(thread)
			c.move(thread, 1+d.below(40), api.Addr(i), api.Addr(i+1))
		}
		c.end(t, func(may []int) int { return may[d.below(len(may))] })
		if got := c.w.Cells.Peek(0); got != 8 {
			t.Errorf("the table's word is %d", got)
		}
	}
}

// P15.4: who waits for a lock of the old table looks again, and has the one of the new table.
func TestWaitsForAnOldOne(t *testing.T) {
	c := newCrowd(world(t, 0))
	c.keep(9, 3)
	for c.w.Cells.Peek(0) != 3 {
		c.step(t, 9)
		// All locks of the old one are had: each one that comes sleeps, or spins.
		if len(c.locks) == 4 && len(c.stages[1]) == 0 {
			c.w.Cells.Store(66, uint64(other))
			c.enter(1, one)
			c.own(2)
			for !c.w.Permits.Asleep(3) || !c.w.Permits.Asleep(5) {
				c.step(t, 1)
				c.step(t, 2)
			}
		}
	}
	for len(c.locks) > 0 {
		c.step(t, 9)
	}
	for range 30 {
		for _, thread := range []int{1, 2} {
			if len(c.stages[thread]) == 2 && c.goes(thread) {
				c.step(t, thread)
			}
		}
		for thread := 9; c.goes(thread); {
			c.step(t, thread)
		}
	}
	for thread, key := range map[int]api.Addr{1: one, 2: other} {
		if by := c.locks[lockOf(key, 3)]; by.thread != thread || by.key != key {
			t.Errorf("thread %d does not have %d: %v", thread, lockOf(key, 3), c.locks)
		}
	}
	c.end(t, func(may []int) int { return may[0] })
}
