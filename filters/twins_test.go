package filters_test

import (
	"math"
	"slices"
	"testing"

	"layby/api"
	"layby/buckets"
	"layby/fairs"
	"layby/filters"
	"layby/lines"
	"layby/links"
	"layby/notes"
	"layby/ones"
	"layby/parks"
	"layby/permits"
	"layby/tables"
	"layby/wordfrees"
	"layby/worlds"
)

// upper: a bit that no number of bits has.
const upper uint64 = 1 << 32

// twin of a Some at one that chooses, told by the chapter's words, in a world of its own.
type twin struct {
	w    *worlds.World
	line int // that comes next; 0: it is over
	a    *answer
	r    ones.Result
	got  []int
	left []int // of whom it got, those who are not unparked yet

	place tables.Place
	enter *buckets.Enter
	part  parks.Part
	free  *wordfrees.Free
}

// step of a twin: its line.
func (as *twin) step() {
	switch as.line {
	case 1:
		if as.enter.Step(as.w) {
			as.place = as.enter.Got()
			as.take()
			as.line = 2
			if as.part = as.a.Begin(as.r); as.part == nil {
				as.next()
			}
		}
	case 2:
		if as.part.Step(as.w) {
			as.next()
		}
	case 3:
		as.w.Permits.Unpark(2 * as.left[0])
		as.w.Tokens[as.left[0]] = as.a.Token()
		as.left = as.left[1:]
		as.next()
	case 4:
		if as.free.Step(as.w) {
			as.line = 0
		}
	}
}

// take out who is chosen, and note each; if one is, the timer fires, if it is due.
func (as *twin) take() {
	as.free = wordfrees.NewFree(lockOf(as.place))
	threads, more, left := chosen(as.w.Tables.Queue(as.place))
	as.got, as.left = threads, threads
	as.r = ones.Result{Many: len(threads), More: more, Thread: -1}
	if len(threads) == 0 {
		return
	}
	as.r.Thread = threads[0]
	as.w.Tables.Put(as.place, left)
	for _, who := range threads {
		as.w.Notes.Add(notes.Note{Step: as.w.Cells.Count() + as.w.Permits.Count(), Thread: me, Kind: notes.NtPick, Addr: one, Other: who})
	}
	now := as.w.Clock.Now()
	if timer := as.w.Tables.Timer(as.place); now > timer.At {
		draw := as.w.Clock.Draw()
		as.w.Tables.PutTimer(as.place, fairs.Timer{At: now + min(draw, math.MaxUint64-now), Fired: now})
		as.r.Fair = true
	}
}

// next line behind the answer's steps, or an Unpark.
func (as *twin) next() {
	as.line = 3
	if len(as.left) == 0 {
		as.line = 4
	}
}

// couple: a Some in a world, and its twin in its own one.
type couple struct {
	w   *worlds.World
	x   *filters.Some
	as  *twin
	log [2]*asks
	a   answer // as it is made for each of both
}

// crowded: who is queued at first, where several are chosen: others of the bucket, and skipped ones, are ahead of them, between, and behind; one stops.
func crowded() []lines.Entry {
	return []lines.Entry{
		entry(31, neighbour, yes), entry(38, one, no), entry(30, one, yes), entry(33, neighbour, stop), entry(34, one, yes), entry(39, one, no), entry(36, one, yes),
		entry(32, other, yes), entry(35, 1, yes), entry(37, neighbour, yes), entry(28, one, stop), entry(29, one, yes),
	}
}

// lonely: who is queued at first, where one is chosen, and nobody else is of the key.
func lonely() []lines.Entry {
	return []lines.Entry{entry(31, neighbour, yes), entry(30, one, yes), entry(32, other, yes)}
}

// refused: who is queued at first, where some of the key are, and nobody is chosen.
func refused() []lines.Entry {
	return []lines.Entry{entry(31, neighbour, yes), entry(30, one, no), entry(34, one, stop), entry(36, one, yes)}
}

// deserted: who is queued at first, where nobody of the key is.
func deserted() []lines.Entry {
	return []lines.Entry{entry(31, neighbour, yes), entry(32, other, yes)}
}

// newCouple of a Some that begins, at tick 4, where some are queued.
func newCouple(t *testing.T, spin int, a answer, l []lines.Entry) *couple {
	t.Helper()
	c := &couple{w: world(t, spin), as: &twin{w: world(t, spin)}, a: a}
	both(ticks(4), queuesUp(l...)).in(c)
	c.begin()
	return c
}

// begin a Some.
func (c *couple) begin() {
	c.log = [2]*asks{{w: c.w}, {w: c.as.w}}
	x, as := c.a, c.a
	x.log, as.log = c.log[0], c.log[1]
	c.x = by(&x)
	*c.as = twin{w: c.as.w, line: 1, a: &as, r: empty(), enter: buckets.NewEnter(me, one)}
}

// in both worlds it is done.
func (d do) in(c *couple) {
	d(c.w)
	d(c.as.w)
}

// step both, and hold them against each other.
func (c *couple) step(t *testing.T) {
	t.Helper()
	c.on(t)
	c.check(t)
}

// on by a step go both.
func (c *couple) on(t *testing.T) {
	t.Helper()
	steps, line := c.w.Steps(), c.as.line
	over := c.x.Step(c.w)
	c.as.step()
	if over != (c.as.line == 0) {
		t.Fatalf("behind line %d: Step = %v", line, over)
	}
	// What an answer's Begin answers may have a step that does nothing.
	want := 1
	if line == 0 || line == 2 && c.a.steps == 0 {
		want = 0
	}
	if got := c.w.Steps() - steps; got != want {
		t.Fatalf("line %d: %d steps", line, got)
	}
}

// state of a world, as far as it is told by numbers alone, beside what it looks like.
type state struct {
	access          api.Access
	call            permits.Call
	accesses, calls int
	links           [64]links.Link
	goes, asleep    [128]bool
	tables          [10]bool
}

func stateOf(w *worlds.World) state {
	s := state{access: w.Cells.Last(), call: w.Permits.Last(), accesses: w.Cells.Count(), calls: w.Permits.Count()}
	for thread := range s.links {
		s.links[thread] = w.Links.At(thread)
	}
	for parker := range s.goes {
		s.goes[parker], s.asleep[parker] = w.Permits.Goes(parker, w.Clock.Now()), w.Permits.Asleep(parker)
	}
	for bits := range s.tables {
		s.tables[bits] = w.Tables.Has(bits)
	}
	return s
}

// check that a Some and its world are as the twin and its world.
func (c *couple) check(t *testing.T) {
	t.Helper()
	if r, got := c.x.Got(); c.x.Over() != (c.as.line == 0) || r != c.as.r || !slices.Equal(got, c.as.got) {
		t.Fatalf("line %d is next: Over = %v, got %+v, %v, want %+v, %v", c.as.line, c.x.Over(), r, got, c.as.r, c.as.got)
	}
	if is, want := stateOf(c.w), stateOf(c.as.w); is != want {
		t.Fatalf("line %d is next: %+v, want %+v", c.as.line, is, want)
	}
	if is, want := c.w.Cells.Words(), c.as.w.Cells.Words(); !slices.Equal(is, want) {
		t.Fatalf("line %d is next: words %v, want %v", c.as.line, is, want)
	}
	if is, want := looksOf(c.w), looksOf(c.as.w); !is.same(want) {
		t.Fatalf("line %d is next: %+v, want %+v", c.as.line, is, want)
	}
	if is, want := c.log[0], c.log[1]; !slices.Equal(is.told, want.told) || len(is.bad) != 0 {
		t.Fatalf("line %d is next: asked %v, want %v; %v", c.as.line, is.told, want.told, is.bad)
	}
}

// Acts of somebody else, between two steps.

// idle: nothing is done.
func idle(*worlds.World) {}

// lockIt and freeIt: words of all locks at which it may be, whatever they are.

func lockIt(w *worlds.World) {
	for a := api.Addr(260); a < 272; a++ {
		w.Cells.Or(a, 1)
	}
}

func freeIt(w *worlds.World) {
	for a := api.Addr(260); a < 272; a++ {
		w.Cells.And(a, 1<<64-2)
	}
}

// queueAll: at all locks a thread of each one's own waits.
func queueAll(w *worlds.World) {
	for i := range 12 {
		waitsFor(40+i, 260+api.Addr(i))(w)
	}
}

// awake: who is asleep for a lock has a permit, and finds it free.
func awake(w *worlds.World) { both(unparks(myWord), freeIt)(w) }

// sleep: who is taken first, and who is taken next, sleep already, or have a permit.
func sleep(w *worlds.World) {
	w.Permits.Park(60)
	w.Permits.Park(68)
}

// allActs: whatever somebody else may do.
func allActs() []do {
	out := []do{
		idle, lockIt, freeIt, queueAll, both(queueAll, freeIt), awake, sleep, unparks(myWord), unparks(60), unparks(61), unparks(68),
		ticks(1), ticks(math.MaxUint64), replaces(3), replaces(4), tells(77), func(w *worlds.World) { w.Clock.Draw() },
		queuesUp(entry(20, one, yes)), queuesUp(entry(me, one, no)), queuesUp(entry(21, neighbour, yes)), queuesUp(entry(30, one, odd), entry(22, one, yes)),
		empties(home()), empties(bucket(2, 1)), both(empties(home()), queuesUp(entry(23, one, no), entry(63, one, 0))),
		sets(home(), 4, 4), sets(home(), 3, 0), sets(bucket(2, 1), 9, 9),
		stores(telling, 3), stores(lock3, 25), stores(lock3, 1<<34), stores(64+30, uint64(other)),
	}
	for _, word := range []uint64{2, 3, upper + 2} {
		out = append(out, stores(0, word))
	}
	return out
}

// script: how a Some comes to a line.
type script struct {
	name   string
	steps  int // of its answer's part
	queued []lines.Entry
	line   int
	acts   []do // each one ahead of a step
}

// idles: so many.
func idles(n int) []do { return slices.Repeat([]do{idle}, n) }

// acting: some acts, one behind the other.
func acting(l ...[]do) []do { return slices.Concat(l...) }

// act ahead of one step.
func act(d ...do) []do { return d }

// scripts to each line, from each line that leads to it.
func scripts() []script {
	three, alone, no, none := crowded(), lonely(), refused(), deserted()
	asleep := acting(idles(1), act(lockIt), idles(4)) // for the lock of line 1, with a spin
	return []script{
		{"1", 2, three, 1, nil},
		{"1 by 1", -1, three, 1, idles(2)},
		{"1 by 1, it waits", 2, three, 1, acting(idles(1), act(lockIt), idles(1))},
		{"1 by 1, it is asleep", -1, three, 1, asleep},
		{"1 by 1, it is awake", 2, no, 1, acting(asleep, act(awake))},
		{"1 by 1, it lets go", 2, three, 1, acting(idles(2), act(stores(0, 3)))},
		{"1 by 1, it begins anew", -1, alone, 1, acting(idles(2), act(stores(0, 3)), idles(1))},
		{"2 by 1", 2, three, 2, idles(3)},
		{"2 by 1, of nobody", 2, none, 2, idles(3)},
		{"2 by 1, of nobody who is chosen", 2, no, 2, idles(3)},
		{"2 by 1, behind a sleep", 2, three, 2, acting(asleep, act(awake), idles(3))},
		{"2 by 1, of another table", 2, three, 2, acting(idles(2), act(replaces(3)), idles(4))},
		{"2 by 1, a step that does nothing", 0, three, 2, idles(3)},
		{"2 by 1, of nobody, a step that does nothing", 0, none, 2, idles(3)},
		{"2 by 2", 2, three, 2, idles(4)},
		{"2 by 2, of nobody", 2, no, 2, idles(4)},
		{"3 by 1", -1, three, 3, idles(3)},
		{"3 by 1, of one", -1, alone, 3, idles(3)},
		{"3 by 1, behind a sleep", -1, three, 3, acting(asleep, act(awake), idles(3))},
		{"3 by 1, of another table", -1, three, 3, acting(idles(2), act(replaces(4)), idles(4))},
		{"3 by 1, they sleep", -1, three, 3, acting(act(sleep), idles(2))},
		{"3 by 1, they came meanwhile", -1, none, 3, acting(idles(2), act(queuesUp(crowded()...)))},
		{"3 by 2", 2, three, 3, idles(5)},
		{"3 by 2, a step that does nothing", 0, three, 3, idles(4)},
		{"3 by 3", -1, three, 3, idles(4)},
		{"3 by 3, the last one", -1, three, 3, idles(5)},
		{"3 by 3, behind an answer", 2, three, 3, acting(act(sleep), idles(6))},
		{"4 by 1", -1, none, 4, idles(3)},
		{"4 by 1, of nobody who is chosen", -1, no, 4, idles(3)},
		{"4 by 1, of another table", -1, no, 4, acting(idles(2), act(replaces(3)), idles(4))},
		{"4 by 1, they went meanwhile", -1, three, 4, acting(idles(2), act(empties(home())))},
		{"4 by 2", 2, none, 4, idles(5)},
		{"4 by 2, of nobody who is chosen", 2, no, 4, idles(5)},
		{"4 by 2, a step that does nothing", 0, none, 4, idles(4)},
		{"4 by 3", -1, three, 4, idles(6)},
		{"4 by 3, of one", -1, alone, 4, idles(4)},
		{"4 by 3, behind an answer", 2, three, 4, idles(8)},
		{"4 by 4", -1, three, 4, acting(idles(6), act(queueAll), idles(2))},
		{"4 by 4, of nobody", -1, none, 4, acting(idles(3), act(queueAll), idles(1))},
		{"over by 4", -1, three, 0, idles(7)},
		{"over by 4, of one, behind an answer", 2, alone, 0, idles(7)},
		{"over by 4, of nobody", -1, none, 0, idles(4)},
		{"over by 4, of nobody who is chosen", 2, no, 0, idles(6)},
		{"over by 4, behind a queue", -1, three, 0, acting(idles(6), act(queueAll), idles(4))},
	}
}

// run acts, each one ahead of a step.
func (c *couple) run(t *testing.T, acts ...do) {
	t.Helper()
	for _, act := range acts {
		act.in(c)
		c.step(t)
	}
}

// couple that begins as a script says.
func (s script) couple(t *testing.T) *couple {
	t.Helper()
	return newCouple(t, 1, answer{steps: s.steps, token: 50}, s.queued)
}

// begun: a couple that is at a script's line.
func (s script) begun(t *testing.T) *couple {
	t.Helper()
	c := s.couple(t)
	for _, act := range s.acts {
		act.in(c)
		c.on(t)
	}
	c.check(t)
	if c.as.line != s.line {
		t.Fatalf("%s: at line %d", s.name, c.as.line)
	}
	return c
}

// P21.1: each script, step by step, and then by itself.
func TestScripts(t *testing.T) {
	for _, s := range scripts() {
		c := s.couple(t)
		c.check(t)
		c.run(t, s.acts...)
		if c.as.line != s.line {
			t.Errorf("%s: at line %d", s.name, c.as.line)
		}
		c.run(t, idles(30)...)
	}
}

// P21.1: from each line on, whatever somebody else does ahead of two steps of four.
func TestLines(t *testing.T) {
	for _, s := range scripts() {
		for _, first := range allActs() {
			for _, second := range allActs() {
				c := s.begun(t)
				c.run(t, first, second, idle, idle)
			}
		}
	}
}

// P21.1: from each line on, three things one step behind the other.
func TestLinesAndOn(t *testing.T) {
	few := []do{idle, lockIt, awake, sleep, ticks(3), queuesUp(entry(20, one, yes))}
	for _, s := range scripts() {
		for _, first := range few {
			for _, second := range few {
				for _, third := range few {
					c := s.begun(t)
					c.run(t, first, second, idle, third, idle, idle)
				}
			}
		}
	}
}

// draw of numbers that are always the same, one behind the other.
type draw uint64

// below a number: the next draw.
func (d *draw) below(n int) int {
	*d = *d*6364136223846793005 + 1442695040888963407
	return int(uint64(*d) >> 33 % uint64(n))
}

// P21.1: long runs tell what the chapter's words tell; where one is over, another one begins, mostly with another answer.
func TestLongRuns(t *testing.T) {
	all := allActs()
	for run := range 500 {
		d := draw(run)
		c := newCouple(t, d.below(4), answer{steps: d.below(4) - 1}, crowded())
		often := 1 + d.below(30)
		for range 150 {
			if d.below(often) == 0 {
				all[d.below(len(all))].in(c)
			}
			c.step(t)
			if c.as.line != 0 || d.below(2) == 0 {
				continue
			}
			c.a = answer{steps: d.below(4) - 1, token: uint64(d.below(1000))}
			both(awake, both(stores(0, uint64(2+d.below(3))), ticks(uint64(d.below(4))))).in(c)
			for range d.below(4) {
				queuesUp(entry(d.below(64), one, uint64(d.below(9))), entry(d.below(64), neighbour, yes)).in(c)
			}
			c.begin()
		}
	}
}

// P21.1: what is asked of it, ahead of each line, is no step, and changes nothing; in no world nothing is done.
func TestAskedOften(t *testing.T) {
	for _, s := range scripts() {
		c := s.begun(t)
		for range 5 {
			c.check(t)
			if c.x.Step(nil) != (s.line == 0) {
				t.Errorf("%s: Step = %v in no world", s.name, s.line != 0)
			}
			_, got := c.x.Got()
			clear(got)
		}
		c.run(t, idles(30)...)
	}
}

// P21.1: behind its last step it is over, and does nothing.
func TestOver(t *testing.T) {
	for _, s := range scripts() {
		if s.line != 0 {
			continue
		}
		c := s.begun(t)
		for _, act := range allActs() {
			c.run(t, act, idle)
			if !c.x.Step(nil) || !c.x.Step(&worlds.World{}) {
				t.Errorf("%s: not over", s.name)
			}
			c.check(t)
		}
	}
}
