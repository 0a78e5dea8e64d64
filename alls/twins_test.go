package alls_test

import (
	"math"
	"slices"
	"testing"

	"layby/alls"
	"layby/api"
	"layby/buckets"
	"layby/lines"
	"layby/links"
	"layby/notes"
	"layby/permits"
	"layby/tables"
	"layby/wordfrees"
	"layby/worlds"
)

// upper: a bit that no number of bits has.
const upper uint64 = 1 << 32

// twin of an All at one, told by the chapter's words, in a world of its own.
type twin struct {
	w     *worlds.World
	line  int // that comes next; 0: it is over
	token uint64
	got   []int
	left  []int // of whom it got, those who are not unparked yet

	place tables.Place
	enter *buckets.Enter
	free  *wordfrees.Free
}

// step of a twin: its line.
func (as *twin) step() {
	switch as.line {
	case 1:
		if as.enter.Step(as.w) {
			as.place = as.enter.Got()
			as.take()
			as.next()
		}
	case 2:
		as.w.Permits.Unpark(2 * as.left[0])
		as.w.Tokens[as.left[0]] = as.token
		as.left = as.left[1:]
		as.next()
	case 3:
		if as.free.Step(as.w) {
			as.line = 0
		}
	}
}

// take all of the key out, and note each.
func (as *twin) take() {
	as.free = wordfrees.NewFree(lockOf(as.place))
	threads, left := parted(as.w.Tables.Queue(as.place))
	as.got, as.left = threads, threads
	as.w.Tables.Put(as.place, left)
	for _, who := range threads {
		as.w.Notes.Add(notes.Note{Step: as.w.Cells.Count() + as.w.Permits.Count(), Thread: me, Kind: notes.NtTake, Addr: one, Other: who})
	}
}

// next line behind line 1, or a step of line 2.
func (as *twin) next() {
	as.line = 2
	if len(as.left) == 0 {
		as.line = 3
	}
}

// couple: an All in a world, and its twin in its own one.
type couple struct {
	w  *worlds.World
	x  *alls.All
	as *twin
}

// crowded: who is queued at first, where several of the key are: others of the bucket are ahead of them, between, and behind.
func crowded() []lines.Entry {
	return []lines.Entry{entry(31, neighbour, 4), entry(30, one, 3), entry(33, neighbour, 1), entry(34, one, 8), entry(36, one, 8), entry(32, other, 5), entry(35, 1, 6), entry(37, neighbour, 1)}
}

// lonely: who is queued at first, where one of the key is.
func lonely() []lines.Entry {
	return []lines.Entry{entry(31, neighbour, 4), entry(30, one, 3), entry(32, other, 5)}
}

// deserted: who is queued at first, where nobody of the key is.
func deserted() []lines.Entry {
	return []lines.Entry{entry(31, neighbour, 4), entry(32, other, 5)}
}

// newCouple of an All that begins, at tick 4, where some are queued.
func newCouple(t *testing.T, spin int, token uint64, l []lines.Entry) *couple {
	t.Helper()
	c := &couple{w: world(t, spin), as: &twin{w: world(t, spin)}}
	both(ticks(4), queuesUp(l...)).in(c)
	c.begin(token)
	return c
}

// begin an All.
func (c *couple) begin(token uint64) {
	c.x = alls.NewAll(me, one, token)
	*c.as = twin{w: c.as.w, line: 1, token: token, enter: buckets.NewEnter(me, one)}
}

// in both worlds it is done.
func (d do) in(c *couple) {
	d(c.w)
	d(c.as.w)
}

// step both, and hold them against each other.
func (c *couple) step(t *testing.T) {
	t.Helper()
	c.on(t)
	c.check(t)
}

// on by a step go both.
func (c *couple) on(t *testing.T) {
	t.Helper()
	steps, line := c.w.Steps(), c.as.line
	over := c.x.Step(c.w)
	c.as.step()
	if over != (c.as.line == 0) {
		t.Fatalf("behind line %d: Step = %v", line, over)
	}
	want := 1
	if line == 0 {
		want = 0
	}
	if got := c.w.Steps() - steps; got != want {
		t.Fatalf("line %d: %d steps", line, got)
	}
}

// state of a world, as far as it is told by numbers alone, beside what it looks like.
type state struct {
	access          api.Access
	call            permits.Call
	accesses, calls int
	links           [64]links.Link
	goes, asleep    [128]bool
	tables          [10]bool
}

func stateOf(w *worlds.World) state {
	s := state{access: w.Cells.Last(), call: w.Permits.Last(), accesses: w.Cells.Count(), calls: w.Permits.Count()}
	for thread := range s.links {
		s.links[thread] = w.Links.At(thread)
	}
	for parker := range s.goes {
		s.goes[parker], s.asleep[parker] = w.Permits.Goes(parker, w.Clock.Now()), w.Permits.Asleep(parker)
	}
	for bits := range s.tables {
		s.tables[bits] = w.Tables.Has(bits)
	}
	return s
}

// check that an All and its world are as the twin and its world.
func (c *couple) check(t *testing.T) {
	t.Helper()
	if got := c.x.Got(); c.x.Over() != (c.as.line == 0) || !slices.Equal(got, c.as.got) {
		t.Fatalf("line %d is next: Over = %v, got %v, want %v", c.as.line, c.x.Over(), got, c.as.got)
	}
	if is, want := stateOf(c.w), stateOf(c.as.w); is != want {
		t.Fatalf("line %d is next: %+v, want %+v", c.as.line, is, want)
	}
	if is, want := c.w.Cells.Words(), c.as.w.Cells.Words(); !slices.Equal(is, want) {
		t.Fatalf("line %d is next: words %v, want %v", c.as.line, is, want)
	}
	if is, want := looksOf(c.w), looksOf(c.as.w); !is.same(want) {
		t.Fatalf("line %d is next: %+v, want %+v", c.as.line, is, want)
	}
}

// Acts of somebody else, between two steps.

// idle: nothing is done.
func idle(*worlds.World) {}

// lockIt and freeIt: words of all locks at which it may be, whatever they are.

func lockIt(w *worlds.World) {
	for a := api.Addr(260); a < 272; a++ {
		w.Cells.Or(a, 1)
	}
}

func freeIt(w *worlds.World) {
	for a := api.Addr(260); a < 272; a++ {
		w.Cells.And(a, 1<<64-2)
	}
}

// queueAll: at all locks a thread of each one's own waits.
func queueAll(w *worlds.World) {
	for i := range 12 {
		waitsFor(40+i, 260+api.Addr(i))(w)
	}
}

// awake: who is asleep for a lock has a permit, and finds it free.
func awake(w *worlds.World) { both(unparks(myWord), freeIt)(w) }

// sleep: who is taken first, and who is taken next, sleep already, or have a permit.
func sleep(w *worlds.World) {
	w.Permits.Park(60)
	w.Permits.Park(68)
}

// tells all threads something.
func tells(token uint64) do {
	return func(w *worlds.World) {
		for thread := range w.Tokens {
			w.Tokens[thread] = token
		}
	}
}

// allActs: whatever somebody else may do.
func allActs() []do {
	out := []do{
		idle, lockIt, freeIt, queueAll, both(queueAll, freeIt), awake, sleep, unparks(myWord), unparks(2 * me), unparks(60), unparks(61), unparks(68),
		ticks(1), ticks(5), ticks(math.MaxUint64), replaces(3), replaces(4), tells(77), func(w *worlds.World) { w.Clock.Draw() },
		queuesUp(entry(20, one, 1)), queuesUp(entry(me, one, 2)), queuesUp(entry(21, neighbour, 3)), queuesUp(entry(30, one, 3), entry(22, one, 4)),
		empties(home()), empties(bucket(2, 1)), both(empties(home()), queuesUp(entry(63, one, 0))),
		sets(home(), 4, 4), sets(home(), 3, 0), sets(bucket(2, 1), 9, 9),
		stores(lock3, 25), stores(lock3, 1<<34), stores(lock1, 1), stores(64+30, uint64(other)),
	}
	for _, word := range []uint64{0, 2, 3, 8, upper + 2} {
		out = append(out, stores(0, word))
	}
	return out
}

// script: how an All comes to a line.
type script struct {
	name   string
	queued []lines.Entry
	line   int
	acts   []do // each one ahead of a step
}

// idles: so many.
func idles(n int) []do { return slices.Repeat([]do{idle}, n) }

// acting: some acts, one behind the other.
func acting(l ...[]do) []do { return slices.Concat(l...) }

// act ahead of one step.
func act(d ...do) []do { return d }

// scripts to each line, from each line that leads to it.
func scripts() []script {
	three, alone, none := crowded(), lonely(), deserted()
	asleep := acting(idles(1), act(lockIt), idles(4)) // for the lock of line 1, with a spin
	return []script{
		{"1", three, 1, nil},
		{"1 by 1", three, 1, idles(2)},
		{"1 by 1, of one", alone, 1, idles(2)},
		{"1 by 1, it waits", three, 1, acting(idles(1), act(lockIt), idles(1))},
		{"1 by 1, it is asleep", three, 1, asleep},
		{"1 by 1, it is awake", none, 1, acting(asleep, act(awake))},
		{"1 by 1, it lets go", three, 1, acting(idles(2), act(stores(0, 3)))},
		{"1 by 1, it begins anew", three, 1, acting(idles(2), act(stores(0, 3)), idles(1))},
		{"2 by 1", three, 2, idles(3)},
		{"2 by 1, of one", alone, 2, idles(3)},
		{"2 by 1, behind a sleep", three, 2, acting(asleep, act(awake), idles(3))},
		{"2 by 1, of another table", three, 2, acting(idles(2), act(replaces(3)), idles(4))},
		{"2 by 1, they sleep", three, 2, acting(act(sleep), idles(2))},
		{"2 by 1, they came meanwhile", none, 2, acting(idles(2), act(queuesUp(crowded()...)))},
		{"2 by 2", three, 2, idles(4)},
		{"2 by 2, the last one", three, 2, idles(5)},
		{"2 by 2, they sleep", three, 2, acting(act(sleep), idles(3))},
		{"3 by 1", none, 3, idles(3)},
		{"3 by 1, of another table", none, 3, acting(idles(2), act(replaces(3)), idles(4))},
		{"3 by 1, behind a sleep", none, 3, acting(asleep, act(awake), idles(3))},
		{"3 by 1, they went meanwhile", three, 3, acting(idles(2), act(empties(home())))},
		{"3 by 2", three, 3, idles(6)},
		{"3 by 2, of one", alone, 3, idles(4)},
		{"3 by 2, of another table", three, 3, acting(idles(2), act(replaces(4)), idles(7))},
		{"3 by 3", three, 3, acting(idles(6), act(queueAll), idles(2))},
		{"3 by 3, of nobody", none, 3, acting(idles(3), act(queueAll), idles(1))},
		{"over by 3", three, 0, idles(7)},
		{"over by 3, of one", alone, 0, idles(5)},
		{"over by 3, of nobody", none, 0, idles(4)},
		{"over by 3, behind a queue", three, 0, acting(idles(6), act(queueAll), idles(4))},
	}
}

// run acts, each one ahead of a step.
func (c *couple) run(t *testing.T, acts ...do) {
	t.Helper()
	for _, act := range acts {
		act.in(c)
		c.step(t)
	}
}

// couple that begins as a script says.
func (s script) couple(t *testing.T) *couple {
	t.Helper()
	return newCouple(t, 1, 50, s.queued)
}

// begun: a couple that is at a script's line.
func (s script) begun(t *testing.T) *couple {
	t.Helper()
	c := s.couple(t)
	for _, act := range s.acts {
		act.in(c)
		c.on(t)
	}
	c.check(t)
	if c.as.line != s.line {
		t.Fatalf("%s: at line %d", s.name, c.as.line)
	}
	return c
}

// P20.1: each script, step by step, and then by itself.
func TestScripts(t *testing.T) {
	for _, s := range scripts() {
		c := s.couple(t)
		c.check(t)
		c.run(t, s.acts...)
		if c.as.line != s.line {
			t.Errorf("%s: at line %d", s.name, c.as.line)
		}
		c.run(t, idles(30)...)
	}
}

// P20.1: from each line on, whatever somebody else does ahead of two steps of four.
func TestLines(t *testing.T) {
	for _, s := range scripts() {
		for _, first := range allActs() {
			for _, second := range allActs() {
				c := s.begun(t)
				c.run(t, first, second, idle, idle)
			}
		}
	}
}

// P20.1: from each line on, three things one step behind the other.
func TestLinesAndOn(t *testing.T) {
	few := []do{idle, lockIt, awake, sleep, ticks(3), queuesUp(entry(20, one, 1))}
	for _, s := range scripts() {
		for _, first := range few {
			for _, second := range few {
				for _, third := range few {
					c := s.begun(t)
					c.run(t, first, second, idle, third, idle, idle)
				}
			}
		}
	}
}

// draw of numbers that are always the same, one behind the other.
type draw uint64

// below a number: the next draw.
func (d *draw) below(n int) int {
	*d = *d*6364136223846793005 + 1442695040888963407
	return int(uint64(*d) >> 33 % uint64(n))
}

// P20.1: long runs tell what the chapter's words tell; where one is over, another one begins, mostly with another token.
func TestLongRuns(t *testing.T) {
	all := allActs()
	for run := range 500 {
		d := draw(run)
		c := newCouple(t, d.below(4), uint64(d.below(9)), crowded())
		often := 1 + d.below(30)
		for range 150 {
			if d.below(often) == 0 {
				all[d.below(len(all))].in(c)
			}
			c.step(t)
			if c.as.line != 0 || d.below(2) == 0 {
				continue
			}
			both(awake, both(stores(0, uint64(2+d.below(3))), ticks(uint64(d.below(4))))).in(c)
			for range d.below(4) {
				queuesUp(entry(d.below(64), one, 1), entry(d.below(64), neighbour, 2)).in(c)
			}
			c.begin(uint64(d.below(1000)))
		}
	}
}

// P20.1: what is asked of it, ahead of each line, is no step, and changes nothing; in no world nothing is done.
func TestAskedOften(t *testing.T) {
	for _, s := range scripts() {
		c := s.begun(t)
		for range 5 {
			c.check(t)
			if c.x.Step(nil) != (s.line == 0) {
				t.Errorf("%s: Step = %v in no world", s.name, s.line != 0)
			}
			clear(c.x.Got())
		}
		c.run(t, idles(30)...)
	}
}

// P20.1: behind its last step it is over, and does nothing.
func TestOver(t *testing.T) {
	for _, s := range scripts() {
		if s.line != 0 {
			continue
		}
		c := s.begun(t)
		for _, act := range allActs() {
			c.run(t, act, idle)
			if !c.x.Step(nil) || !c.x.Step(&worlds.World{}) {
				t.Errorf("%s: not over", s.name)
			}
			c.check(t)
		}
	}
}
