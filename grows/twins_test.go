package grows

import (
	"slices"
	"testing"

	"layby/api"
	"layby/lines"
	"layby/links"
	"layby/permits"
	"layby/wordfrees"
	"layby/wordlocks"
	"layby/worlds"
)

// twin of a Join, told by the chapter's words, in a world of its own.
type twin struct {
	w      *worlds.World
	line   int // that comes next; 0: it is over
	then   int // the line behind line 6
	needed int // bits
	k      uint64
	bucket int
	lock   *wordlocks.Lock
	free   *wordfrees.Free
}

// step of a twin: its line.
func (as *twin) step() {
	switch as.line {
	case 1:
		as.needed = wanted(as.w.Cells.Add(1, 1))
		as.line = 2
	case 2:
		as.k = as.w.Cells.Load(0)
		as.line = 0
		if bitsOf(as.k) < as.needed {
			as.line, as.bucket = 3, 0
			as.lock = wordlocks.NewLock(me, as.at())
		}
	case 3:
		if as.lock.Step(as.w) && as.next(4) {
			as.lock = wordlocks.NewLock(me, as.at())
		}
	case 4:
		as.line = 5
		if as.w.Cells.Load(0) != as.k {
			as.frees(2)
		}
	case 5:
		as.w.Cells.Store(0, uint64(as.needed))
		as.w.Tables.Grow(bitsOf(as.k), as.needed, as.w.Clock.Now())
		as.frees(0)
	case 6:
		if as.free.Step(as.w) && as.next(as.then) {
			as.free = wordfrees.NewFree(as.at())
		}
	}
}

// at: the lock of the bucket that is next.
func (as *twin) at() api.Addr {
	return lockAt(bitsOf(as.k), as.bucket)
}

// next bucket: is there one? Behind the last one another line comes.
func (as *twin) next(line int) bool {
	as.bucket++
	if as.bucket == 1<<bitsOf(as.k) {
		as.line = line
		return false
	}
	return true
}

// frees of all locks, and behind these another line.
func (as *twin) frees(then int) {
	as.line, as.then, as.bucket = 6, then, 0
	as.free = wordfrees.NewFree(as.at())
}

// couple: a Join in a world, and its twin.
type couple struct {
	w  *worlds.World
	x  *Join
	as *twin
}

// newCouple of a Join that begins, where so many joined, and some are parked.
func newCouple(t *testing.T, count uint64, spin int) *couple {
	t.Helper()
	c := &couple{w: worldOf(t, spin, count, 2), as: &twin{w: worldOf(t, spin, count, 2)}}
	do(func(w *worlds.World) {
		w.Clock.Tick(4)
		for i, key := range []api.Addr{one, neighbour, one, other, 1, neighbour} {
			p := placeOf(key, 2)
			w.Tables.Put(p, append(w.Tables.Queue(p), lines.Entry{Thread: 30 + i, Key: key, Token: uint64(i)}))
		}
	}).in(c)
	c.begin()
	return c
}

// begin a Join.
func (c *couple) begin() {
	c.x = NewJoin(me)
	*c.as = twin{w: c.as.w, line: 1}
}

// in both worlds it is done.
func (d do) in(c *couple) {
	d(c.w)
	d(c.as.w)
}

// step both, and hold them against each other.
func (c *couple) step(t *testing.T) {
	t.Helper()
	steps, line := c.w.Steps(), c.as.line
	over := c.x.Step(c.w)
	c.as.step()
	if over != (c.as.line == 0) {
		t.Fatalf("behind line %d: Step = %v", line, over)
	}
	want := 1
	if line == 0 {
		want = 0
	}
	if got := c.w.Steps() - steps; got != want {
		t.Fatalf("line %d: %d steps", line, got)
	}
	c.check(t)
}

// state of a world, as far as it is told by numbers.
type state struct {
	access          api.Access
	call            permits.Call
	accesses, calls int
	links           [64]links.Link
	goes, asleep    [128]bool
	tables          [10]bool
}

func stateOf(w *worlds.World) state {
	s := state{access: w.Cells.Last(), call: w.Permits.Last(), accesses: w.Cells.Count(), calls: w.Permits.Count()}
	for thread := range s.links {
		s.links[thread] = w.Links.At(thread)
	}
	for parker := range s.goes {
		s.goes[parker], s.asleep[parker] = w.Permits.Goes(parker, 0), w.Permits.Asleep(parker)
	}
	for bits := range s.tables {
		s.tables[bits] = w.Tables.Has(bits)
	}
	return s
}

// check that a Join and its world are as the twin and its world.
func (c *couple) check(t *testing.T) {
	t.Helper()
	if c.x.Over() != (c.as.line == 0) {
		t.Fatalf("line %d is next: Over = %v", c.as.line, c.x.Over())
	}
	if is, want := stateOf(c.w), stateOf(c.as.w); is != want {
		t.Fatalf("line %d is next: %+v, want %+v", c.as.line, is, want)
	}
	if is, want := c.w.Cells.Words(), c.as.w.Cells.Words(); !slices.Equal(is, want) {
		t.Fatalf("line %d is next: words %v, want %v", c.as.line, is, want)
	}
	// Queues change where a table comes, and nowhere else: in small tables they are all looked at.
	for bits := 2; bits <= 4; bits++ {
		for bucket := range 1 << bits {
			p := at(bits, bucket)
			if is, want := c.w.Tables.Queue(p), c.as.w.Tables.Queue(p); !slices.Equal(is, want) || c.w.Tables.Timer(p) != c.as.w.Tables.Timer(p) {
				t.Fatalf("line %d is next: %+v has %v, want %v", c.as.line, p, is, want)
			}
		}
	}
}

// Acts of somebody else, between two steps.

// none: nothing is done.
func none(*worlds.World) {}

// lockIt and freeIt: words of all locks at which a Join may be, whatever they are.

func lockIt(w *worlds.World) {
	for a := lockAt(2, 0); a <= lockAt(3, 7); a++ {
		w.Cells.Or(a, 1)
	}
}

func freeIt(w *worlds.World) {
	for a := lockAt(2, 0); a <= lockAt(3, 7); a++ {
		w.Cells.And(a, 1<<64-2)
	}
}

// queueAll: at all locks a thread of each one's own.
func queueAll(w *worlds.World) {
	for i := range 12 {
		queued(20+i, lockAt(2, 0)+api.Addr(i))(w)
	}
}

// awake: who is asleep has a permit, and finds locks free.
func awake(w *worlds.World) { both(unparked(myParker), freeIt)(w) }

// ticked: the clock has.
func ticked(w *worlds.World) { w.Clock.Tick(3) }

// parks: somebody does, whatever locks are had.
func parks(w *worlds.World) {
	p := placeOf(one, w.Cells.Peek(0))
	w.Tables.Put(p, append(w.Tables.Queue(p), lines.Entry{Thread: 40, Key: one}))
}

// allActs: whatever somebody else may do.
func allActs() []do {
	out := []do{none, lockIt, freeIt, queueAll, both(queueAll, freeIt), unparked(myParker), unparked(myParker - 1), awake, ticked, parks}
	for _, word := range []uint64{0, 2, 3, 8, upper + 2} {
		out = append(out, stored(0, word), both(stored(0, word), awake))
	}
	for _, word := range []uint64{0, 40, 1 << 63} {
		out = append(out, stored(1, word))
	}
	for _, bucket := range []int{0, 1, 3} {
		out = append(out, stored(lockAt(2, bucket), 25), stored(lockAt(2, bucket), 1<<34))
	}
	return out
}

// script: how a Join comes to a line.
type script struct {
	name  string
	count uint64
	line  int
	acts  []do // each one ahead of a step
}

// nones: so many.
func nones(n int) []do {
	return slices.Repeat([]do{none}, n)
}

// rowOf acts.
func rowOf(acts ...[]do) []do {
	return slices.Concat(acts...)
}

// scripts to each line, from each line that leads to it.
func scripts() []script {
	to := func(word uint64) []do { return []do{stored(0, word)} }
	lock, awake, queue := []do{lockIt}, []do{awake}, []do{queueAll}
	turned := rowOf(nones(6), to(1), nones(4)) // line 2 is next, by 6
	return []script{
		{"1", 1, 1, nil},
		{"2 by 1", 1, 2, nones(1)},
		{"2 by 1, of one alone", 0, 2, nones(1)},
		{"2 by 6", 1, 2, turned},
		{"2 by 6, behind a queue", 1, 2, rowOf(nones(6), []do{both(stored(0, 1), queueAll)}, nones(20))},
		{"2 by 6, twice", 2, 2, rowOf(turned, nones(5), to(2), nones(4))},
		{"3 by 2", 1, 3, nones(2)},
		{"3 by 2, the second time", 4, 3, rowOf(turned, nones(1))},
		{"3 by 2, another table", 2, 3, rowOf(turned, to(3))},
		{"3 by 3, the second lock", 1, 3, nones(3)},
		{"3 by 3, the last lock", 1, 3, nones(5)},
		{"3 by 3, it looks", 1, 3, rowOf(nones(2), lock)},
		{"3 by 3, it queues", 1, 3, rowOf(nones(2), lock, nones(2))},
		{"3 by 3, it is asleep", 2, 3, rowOf(nones(2), lock, nones(4))},
		{"3 by 3, it is awake", 1, 3, rowOf(nones(2), lock, nones(4), awake)},
		{"3 by 3, it is asleep for the last one", 1, 3, rowOf(nones(5), lock, nones(4))},
		{"3 by 3, behind the one that it slept for", 1, 3, rowOf(nones(3), lock, nones(4), awake, nones(2))},
		{"4 by 3", 1, 4, nones(6)},
		{"4 by 3, behind a sleep for the last one", 1, 4, rowOf(nones(5), lock, nones(4), awake, nones(2))},
		{"4 by 3, the second time", 1, 4, rowOf(turned, nones(5))},
		{"4 by 3, another table", 2, 4, rowOf(turned, to(3), nones(8))},
		{"5 by 4", 1, 5, nones(7)},
		{"5 by 4, the second time", 2, 5, rowOf(turned, nones(6))},
		{"6 by 4", 1, 6, rowOf(nones(6), to(3))},
		{"6 by 5", 1, 6, nones(8)},
		{"6 by 5, to 4 bits", 4, 6, nones(8)},
		{"6 by 6, behind 4", 1, 6, rowOf(nones(6), to(0), nones(1))},
		{"6 by 6, behind 4, the last lock", 1, 6, rowOf(nones(6), to(3), nones(3))},
		{"6 by 6, behind 4, it wakes", 1, 6, rowOf(nones(6), to(3), queue, nones(3))},
		{"6 by 6, behind 5", 1, 6, nones(10)},
		{"6 by 6, behind 5, the last lock", 1, 6, nones(11)},
		{"6 by 6, behind 5, it wakes", 1, 6, rowOf(nones(8), queue, nones(3))},
		{"over by 2", 0, 0, nones(2)},
		{"over by 2, a table that is greater", 1, 0, rowOf(nones(1), to(8))},
		{"over by 2, the second time", 1, 0, rowOf(turned, to(3))},
		{"over by 6", 1, 0, nones(12)},
		{"over by 6, behind a queue", 1, 0, rowOf(nones(8), queue, nones(19))},
		{"over by 6, the second time", 1, 0, rowOf(turned, nones(11))},
	}
}

// run acts, each one ahead of a step.
func (c *couple) run(t *testing.T, acts ...do) {
	t.Helper()
	for _, act := range acts {
		act.in(c)
		c.step(t)
	}
}

// begun: a couple that is at a script's line.
func (s script) begun(t *testing.T) *couple {
	t.Helper()
	c := newCouple(t, s.count, 1)
	c.check(t)
	c.run(t, s.acts...)
	if c.as.line != s.line {
		t.Fatalf("%s: at line %d", s.name, c.as.line)
	}
	return c
}

// P17.1: from each line on, whatever somebody else does ahead of two steps of four.
func TestLines(t *testing.T) {
	for _, s := range scripts() {
		for _, first := range allActs() {
			for _, second := range allActs() {
				c := s.begun(t)
				c.run(t, first, second, none, none)
			}
		}
		c := s.begun(t)
		c.run(t, nones(60)...)
		checkQuiet(t, c.w, 1)
	}
}

// P17.1: from each line on, three things one step behind the other.
func TestLinesAndOn(t *testing.T) {
	few := []do{none, lockIt, awake, queueAll, stored(0, 3), stored(0, 2)}
	for _, s := range scripts() {
		for _, first := range few {
			for _, second := range few {
				for _, third := range few {
					c := s.begun(t)
					c.run(t, first, second, none, third, none, none)
				}
			}
		}
	}
}

// draw of numbers that are always the same, one behind the other.
type draw uint64

// below a number: the next draw.
func (d *draw) below(n int) int {
	*d = *d*6364136223846793005 + 1442695040888963407
	return int(uint64(*d) >> 33 % uint64(n))
}

// P17.1: long runs tell what the chapter's words tell; where one is over, another one begins, mostly at another count and another table's word.
func TestLongRuns(t *testing.T) {
	acts := allActs()
	for run := range 400 {
		d := draw(run)
		c := newCouple(t, counts()[d.below(len(counts()))], d.below(4))
		often := 1 + d.below(30)
		for range 120 {
			if d.below(often) == 0 {
				acts[d.below(len(acts))].in(c)
			}
			c.step(t)
			if c.as.line != 0 || d.below(2) == 0 {
				continue
			}
			if d.below(3) > 0 {
				stored(1, uint64(d.below(64))).in(c)
				stored(0, tableWords()[d.below(len(tableWords()))]).in(c)
			}
			do(awake).in(c)
			c.begin()
		}
		if !same(shelves(c.w), shelves(c.as.w)) {
			t.Fatal("the tables are not as they should be")
		}
		checkQuiet(t, c.w, c.as.w.Spin)
	}
}

// P17.1: what is asked of it, ahead of each line, is no step, and changes nothing; in no world nothing is done.
func TestAskedOften(t *testing.T) {
	for _, s := range scripts() {
		c := s.begun(t)
		for range 5 {
			c.check(t)
			if c.x.Step(nil) != (s.line == 0) {
				t.Errorf("%s: Step = %v in no world", s.name, s.line != 0)
			}
		}
		c.run(t, nones(40)...)
	}
}

// P17.1: behind its last step it is over, and does nothing.
func TestOver(t *testing.T) {
	for _, s := range scripts() {
		if s.line != 0 {
			continue
		}
		c := s.begun(t)
		for _, act := range allActs() {
			c.run(t, act, none)
			if !c.x.Step(nil) || !c.x.Step(&worlds.World{}) {
				t.Errorf("%s: not over", s.name)
			}
			c.check(t)
		}
	}
}
