package parks_test

import (
	"math"
	"slices"
	"testing"

	"layby/api"
	"layby/buckets"
	"layby/fairs"
	"layby/lines"
	"layby/links"
	"layby/notes"
	"layby/parks"
	"layby/permits"
	"layby/tables"
	"layby/wordfrees"
	"layby/worlds"
)

// upper: a bit that no number of bits, and no key, has.
const upper uint64 = 1 << 32

// twin of a Park at one, told by the chapter's words, in a world of its own.
type twin struct {
	w     *worlds.World
	line  int // that comes next; 0: it is over
	until api.Until
	h     parks.Hooks
	o     parks.Outcome

	place tables.Place
	enter *buckets.Enter
	look  parks.Look
	part  parks.Part
	own   *buckets.Own
	free  *wordfrees.Free
	key   api.Addr // that 9 found
	last  bool
}

// step of a twin: its line.
func (as *twin) step() {
	switch as.line {
	case 1:
		if as.enter.Step(as.w) {
			as.place = as.enter.Got()
			if as.look = as.h.Validate(); as.look == nil {
				as.line = 4
			} else {
				as.line = 2
			}
		}
	case 2:
		if as.look.Step(as.w) {
			as.line = 4
			if !as.look.Ok() {
				as.frees(3)
			}
		}
	case 4:
		as.w.Cells.Store(myCell, uint64(one))
		as.line = 5
	case 5:
		as.w.Permits.Prepare(myLot)
		as.w.Tables.Put(as.place, append(as.w.Tables.Queue(as.place), entry(me, one, mine)))
		as.w.Notes.Add(notes.Note{Step: as.w.Steps(), Thread: me, Kind: notes.NtPark, Addr: one, Other: -1})
		as.frees(6)
	case 7:
		if as.part.Step(as.w) {
			as.line = 8
		}
	case 8:
		as.sleep()
	case 9:
		if as.own.Step(as.w) {
			as.place, as.key = as.own.Got()
			as.line = 10
		}
	case 10:
		as.late()
	case 12:
		if as.part.Step(as.w) {
			as.frees(13)
		}
	case 3, 6, 11, 13:
		if as.free.Step(as.w) {
			as.freed()
		}
	}
}

// frees the lock of its place, by a line.
func (as *twin) frees(line int) {
	as.line, as.free = line, wordfrees.NewFree(lockOf(as.place))
}

// freed is the lock: what comes behind it.
func (as *twin) freed() {
	switch as.line {
	case 3:
		as.line, as.o = 0, parks.PaInvalid
	case 6:
		if as.part = as.h.Before(); as.part == nil {
			as.line = 8
		} else {
			as.line = 7
		}
	case 11:
		as.line, as.o = 0, parks.PaUnparked
	case 13:
		as.line, as.o = 0, parks.PaLate
	}
}

// sleep of a twin: line 8.
func (as *twin) sleep() {
	var ou permits.Outcome
	if as.until.On {
		ou = as.w.Permits.Until(myLot, as.until.At, as.w.Clock.Now())
	} else {
		ou = as.w.Permits.Park(myLot)
	}
	switch ou {
	case permits.OuGot:
		as.line, as.o = 0, parks.PaUnparked
	case permits.OuLate:
		as.line, as.own = 9, buckets.NewOwn(me)
	}
}

// late is a twin, or not: line 10.
func (as *twin) late() {
	if !as.w.Permits.Late(myLot) {
		as.frees(11)
		return
	}
	queue := as.w.Tables.Queue(as.place)
	if i := slices.IndexFunc(queue, func(e lines.Entry) bool { return e.Thread == me }); i >= 0 {
		queue = slices.Delete(queue, i, i+1)
		as.w.Tables.Put(as.place, queue)
		as.w.Notes.Add(notes.Note{Step: as.w.Steps(), Thread: me, Kind: notes.NtGone, Addr: as.key, Other: -1})
	}
	as.last = !slices.ContainsFunc(queue, func(e lines.Entry) bool { return e.Key == as.key })
	if as.part = as.h.Late(as.key, as.last); as.part == nil {
		as.frees(13)
	} else {
		as.line = 12
	}
}

// couple: a Park in a world, and its twin in its own one.
type couple struct {
	w     *worlds.World
	x     *parks.Park
	as    *twin
	log   [2]*asks
	until api.Until
	h     hooks // as they are made for each of both
}

// newCouple of a Park that begins, where the tick is 4, and others are parked.
func newCouple(t *testing.T, spin int, until api.Until, h hooks) *couple {
	t.Helper()
	c := &couple{w: world(t, spin), as: &twin{w: world(t, spin)}, until: until, h: h}
	both(ticks(4), queuesUp(entry(30, one, 3), entry(31, neighbour, 4), entry(32, other, 5), entry(33, 1, 6))).in(c)
	c.begin()
	return c
}

// begin a Park.
func (c *couple) begin() {
	c.log = [2]*asks{{w: c.w}, {w: c.as.w}}
	x, as := c.h, c.h
	x.log, as.log = c.log[0], c.log[1]
	c.x = parks.NewPark(me, one, mine, c.until, &x)
	*c.as = twin{w: c.as.w, line: 1, until: c.until, h: &as, enter: buckets.NewEnter(me, one)}
}

// in both worlds it is done.
func (d do) in(c *couple) {
	d(c.w)
	d(c.as.w)
}

// step both, and hold them against each other.
func (c *couple) step(t *testing.T) {
	t.Helper()
	c.on(t)
	c.check(t)
}

// on by a step go both.
func (c *couple) on(t *testing.T) {
	t.Helper()
	steps, line := c.w.Steps(), c.as.line
	over := c.x.Step(c.w)
	c.as.step()
	if over != (c.as.line == 0) {
		t.Fatalf("behind line %d: Step = %v", line, over)
	}
	// What hooks answer may have a step that does nothing.
	want := 1
	if line == 0 || line == 2 && c.h.validate == 0 || line == 7 && c.h.before == 0 || line == 12 && c.h.late == 0 {
		want = 0
	}
	if got := c.w.Steps() - steps; got != want {
		t.Fatalf("line %d: %d steps", line, got)
	}
}

// state of a world, as far as it is told by numbers.
type state struct {
	access          api.Access
	call            permits.Call
	accesses, calls int
	links           [64]links.Link
	goes, asleep    [128]bool
	tables          [10]bool
	timers          [4]fairs.Timer
	tokens          [64]uint64
}

func stateOf(w *worlds.World) state {
	s := state{access: w.Cells.Last(), call: w.Permits.Last(), accesses: w.Cells.Count(), calls: w.Permits.Count(), tokens: w.Tokens}
	for thread := range s.links {
		s.links[thread] = w.Links.At(thread)
	}
	for parker := range s.goes {
		s.goes[parker], s.asleep[parker] = w.Permits.Goes(parker, w.Clock.Now()), w.Permits.Asleep(parker)
	}
	for bits := range s.tables {
		s.tables[bits] = w.Tables.Has(bits)
	}
	for n := range s.timers {
		s.timers[n] = w.Tables.Timer(bucket(2, n))
	}
	return s
}

// check that a Park and its world are as the twin and its world.
func (c *couple) check(t *testing.T) {
	t.Helper()
	if c.x.Over() != (c.as.line == 0) || c.x.Parked() != (c.as.line == 8) {
		t.Fatalf("line %d is next: Over = %v, Parked = %v", c.as.line, c.x.Over(), c.x.Parked())
	}
	token := uint64(0)
	if c.as.o == parks.PaUnparked {
		token = c.w.Tokens[me]
	}
	if o, k := c.x.Got(c.w); o != c.as.o || k != token {
		t.Fatalf("line %d is next: it ended %d with %d, want %d with %d", c.as.line, o, k, c.as.o, token)
	}
	if is, want := stateOf(c.w), stateOf(c.as.w); is != want {
		t.Fatalf("line %d is next: %+v, want %+v", c.as.line, is, want)
	}
	if is, want := c.w.Cells.Words(), c.as.w.Cells.Words(); !slices.Equal(is, want) {
		t.Fatalf("line %d is next: words %v, want %v", c.as.line, is, want)
	}
	if is, want := queuesOf(c.w), queuesOf(c.as.w); !is.same(want) {
		t.Fatalf("line %d is next: queues %v, want %v", c.as.line, is, want)
	}
	if is, want := c.w.Notes.All(), c.as.w.Notes.All(); !slices.Equal(is, want) {
		t.Fatalf("line %d is next: notes %v, want %v", c.as.line, is, want)
	}
	if is, want := c.log[0], c.log[1]; !slices.Equal(is.told, want.told) || len(is.bad) != 0 {
		t.Fatalf("line %d is next: asked %v, want %v; %v", c.as.line, is.told, want.told, is.bad)
	}
}

// Acts of somebody else, between two steps.

// none: nothing is done.
func none(*worlds.World) {}

// lockIt and freeIt: words of all locks at which it may be, whatever they are.

func lockIt(w *worlds.World) {
	for a := api.Addr(260); a < 272; a++ {
		w.Cells.Or(a, 1)
	}
}

func freeIt(w *worlds.World) {
	for a := api.Addr(260); a < 272; a++ {
		w.Cells.And(a, 1<<64-2)
	}
}

// queueAll: at all locks a thread of each one's own waits.
func queueAll(w *worlds.World) {
	for i := range 12 {
		waitsFor(40+i, 260+api.Addr(i))(w)
	}
}

// awake: who is asleep for a lock has a permit, and finds it free.
func awake(w *worlds.World) { both(unparks(myWord), freeIt)(w) }

// allActs: whatever somebody else may do.
func allActs() []do {
	out := []do{
		none, lockIt, freeIt, queueAll, both(queueAll, freeIt), awake, unparks(myWord), unparks(myLot), wakes(9), ticks(1), ticks(5),
		takesOut(me), both(takesOut(me), wakes(11)), moves(other), moves(neighbour), moves(one), replaces(3), replaces(4),
		queuesUp(entry(20, one, 1)), queuesUp(entry(me, one, 2)), queuesUp(entry(me, neighbour, 3)), empties(bucket(2, 3)), empties(bucket(2, 1)),
		stores(validating, 3), stores(lock3, 25), stores(lock3, 1<<34), stores(lock1, 1),
	}
	for _, word := range []uint64{0, 2, 3, 8, upper + 2} {
		out = append(out, stores(0, word))
	}
	for _, key := range []uint64{0, uint64(one), uint64(neighbour), uint64(other), upper + uint64(one), math.MaxUint64} {
		out = append(out, stores(myCell, key))
	}
	return out
}

// script: how a Park comes to a line.
type script struct {
	name  string
	until api.Until
	h     hooks
	line  int
	acts  []do // each one ahead of a step
}

// nones: so many.
func nones(n int) []do { return slices.Repeat([]do{none}, n) }

// acting: some acts, one behind the other.
func acting(l ...[]do) []do { return slices.Concat(l...) }

// act ahead of one step.
func act(d ...do) []do { return d }

// scripts to each line, from each line that leads to it. The tick is 4.
func scripts() []script {
	no := hooks{validate: -1, before: -1, late: -1}
	all := hooks{validate: 2, before: 2, late: 2}
	idle := hooks{}
	looks := func(not bool) hooks { return hooks{validate: 1, before: -1, late: -1, not: not} }
	now, then := at(4), at(6)
	asleep := acting(nones(2), act(lockIt), nones(4)) // for the lock of line 1, with a spin
	return []script{
		{"1", never(), all, 1, nil},
		{"1, it waits", never(), all, 1, acting(nones(1), act(lockIt), nones(1))},
		{"1, it is asleep", then, all, 1, asleep[1:]},
		{"1, it is awake", now, all, 1, acting(asleep[1:], act(awake))},
		{"1, it lets go", then, all, 1, acting(nones(2), act(stores(0, 3)))},
		{"1, it begins anew", then, no, 1, acting(nones(2), act(stores(0, 3)), nones(1))},
		{"2 by 1", never(), all, 2, nones(3)},
		{"2 by 1, behind a sleep", now, all, 2, acting(asleep[1:], act(awake), nones(3))},
		{"2 by 1, of another table", now, all, 2, acting(nones(2), act(replaces(3)), nones(4))},
		{"2 by 1, a step that does nothing", never(), idle, 2, nones(3)},
		{"2 by 2", then, all, 2, nones(4)},
		{"3 by 2", never(), looks(true), 3, nones(4)},
		{"3 by 2, a step that does nothing", never(), hooks{not: true}, 3, nones(4)},
		{"3 by 3", never(), looks(true), 3, acting(nones(4), act(queueAll), nones(2))},
		{"4 by 1", then, no, 4, nones(3)},
		{"4 by 2", then, all, 4, nones(5)},
		{"4 by 2, a step that does nothing", then, idle, 4, nones(4)},
		{"5 by 4", then, no, 5, nones(4)},
		{"5 by 4, with hooks", never(), all, 5, nones(6)},
		{"6 by 5", then, no, 6, nones(5)},
		{"6 by 6", then, no, 6, acting(nones(5), act(queueAll), nones(2))},
		{"7 by 6", then, all, 7, nones(8)},
		{"7 by 6, behind a queue", then, all, 7, acting(nones(7), act(queueAll), nones(4))},
		{"7 by 7", now, all, 7, nones(9)},
		{"7 by 6, a step that does nothing", then, idle, 7, nones(7)},
		{"8 by 6", never(), no, 8, nones(6)},
		{"8 by 6, with a deadline", then, no, 8, nones(6)},
		{"8 by 6, that is there", now, no, 8, nones(6)},
		{"8 by 7", then, all, 8, nones(10)},
		{"8 by 7, a step that does nothing", then, idle, 8, nones(8)},
		{"8 by 8", never(), no, 8, nones(9)},
		{"8 by 8, with a deadline", then, no, 8, nones(8)},
		{"9 by 8", now, no, 9, nones(7)},
		{"9 by 8, asleep", then, all, 9, acting(nones(11), act(ticks(2)))},
		{"9 by 9", now, no, 9, nones(9)},
		{"9 by 9, it is asleep", now, no, 9, acting(nones(9), act(lockIt), nones(4))},
		{"9 by 9, it lets go", now, all, 9, acting(nones(13), act(moves(other)), nones(2))},
		{"10 by 9", now, all, 10, nones(16)},
		{"10 by 9, plain", now, no, 10, nones(12)},
		{"10 by 9, moved", now, all, 10, acting(nones(13), act(moves(other)), nones(8))},
		{"11 by 10", now, all, 11, acting(nones(12), act(wakes(3)), nones(4))},
		{"11 by 11", now, no, 11, acting(nones(12), act(wakes(3)), act(queueAll), nones(2))},
		{"12 by 10", now, all, 12, nones(17)},
		{"12 by 10, out", now, all, 12, acting(nones(12), act(takesOut(me)), nones(4))},
		{"12 by 10, a step that does nothing", now, idle, 12, nones(15)},
		{"12 by 12", now, all, 12, nones(18)},
		{"13 by 10", now, no, 13, nones(13)},
		{"13 by 12", now, all, 13, nones(19)},
		{"13 by 13", now, no, 13, acting(nones(13), act(queueAll), nones(2))},
		{"over by 3", never(), looks(true), 0, nones(5)},
		{"over by 8", never(), no, 0, acting(nones(6), act(wakes(5)))},
		{"over by 8, asleep", then, all, 0, acting(nones(12), act(wakes(5)))},
		{"over by 11", now, no, 0, acting(nones(9), act(wakes(5)), nones(4))},
		{"over by 13", now, all, 0, nones(20)},
	}
}

// run acts, each one ahead of a step.
func (c *couple) run(t *testing.T, acts ...do) {
	t.Helper()
	for _, act := range acts {
		act.in(c)
		c.step(t)
	}
}

// begun: a couple that is at a script's line.
func (s script) begun(t *testing.T) *couple {
	t.Helper()
	c := newCouple(t, 1, s.until, s.h)
	for _, act := range s.acts {
		act.in(c)
		c.on(t)
	}
	c.check(t)
	if c.as.line != s.line {
		t.Fatalf("%s: at line %d", s.name, c.as.line)
	}
	return c
}

// P18.1, P18.2: each script, step by step, and then by itself.
func TestScripts(t *testing.T) {
	for _, s := range scripts() {
		c := newCouple(t, 1, s.until, s.h)
		c.check(t)
		c.run(t, s.acts...)
		if c.as.line != s.line {
			t.Errorf("%s: at line %d", s.name, c.as.line)
		}
		c.run(t, nones(40)...)
		checkQuiet(t, c.w, 1)
	}
}

// P18.1, P18.2: from each line on, whatever somebody else does ahead of two steps of four.
func TestLines(t *testing.T) {
	for _, s := range scripts() {
		for _, first := range allActs() {
			for _, second := range allActs() {
				c := s.begun(t)
				c.run(t, first, second, none, none)
			}
		}
	}
}

// P18.1, P18.2: from each line on, three things one step behind the other.
func TestLinesAndOn(t *testing.T) {
	few := []do{none, lockIt, awake, wakes(4), moves(other), ticks(3)}
	for _, s := range scripts() {
		for _, first := range few {
			for _, second := range few {
				for _, third := range few {
					c := s.begun(t)
					c.run(t, first, second, none, third, none, none)
				}
			}
		}
	}
}

// draw of numbers that are always the same, one behind the other.
type draw uint64

// below a number: the next draw.
func (d *draw) below(n int) int {
	*d = *d*6364136223846793005 + 1442695040888963407
	return int(uint64(*d) >> 33 % uint64(n))
}

// P18.1, P18.2: long runs tell what the chapter's words tell; where one is over, another one begins, mostly with other hooks and another deadline.
func TestLongRuns(t *testing.T) {
	all := allActs()
	for run := range 500 {
		d := draw(run)
		c := newCouple(t, d.below(4), never(), hooks{})
		often := 1 + d.below(30)
		for range 150 {
			if d.below(often) == 0 {
				all[d.below(len(all))].in(c)
			}
			c.step(t)
			if c.as.line != 0 || d.below(2) == 0 {
				continue
			}
			c.until = api.Until{On: d.below(4) > 0, At: c.w.Clock.Now() + uint64(d.below(3))}
			c.h = hooks{validate: d.below(4) - 1, before: d.below(4) - 1, late: d.below(4) - 1, not: d.below(6) == 0}
			both(awake, stores(0, uint64(2+d.below(3)))).in(c)
			c.begin()
		}
		checkQuiet(t, c.w, c.as.w.Spin)
	}
}

// P18.1, P18.2: what is asked of it, ahead of each line, is no step, and changes nothing; in no world nothing is done.
func TestAskedOften(t *testing.T) {
	for _, s := range scripts() {
		c := s.begun(t)
		for range 5 {
			c.check(t)
			if c.x.Step(nil) != (s.line == 0) {
				t.Errorf("%s: Step = %v in no world", s.name, s.line != 0)
			}
			if o, token := c.x.Got(nil); o != c.as.o || token != 0 {
				t.Errorf("%s: it got %d, %d in no world", s.name, o, token)
			}
		}
		c.run(t, nones(30)...)
	}
}

// P18.1, P18.2: behind its last step it is over, and does nothing.
func TestOver(t *testing.T) {
	for _, s := range scripts() {
		if s.line != 0 {
			continue
		}
		c := s.begun(t)
		for _, act := range allActs() {
			c.run(t, act, none)
			if !c.x.Step(nil) || !c.x.Step(&worlds.World{}) {
				t.Errorf("%s: not over", s.name)
			}
			c.check(t)
		}
	}
}
