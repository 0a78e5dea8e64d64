package pairs

import (
	"math"
	"slices"
	"testing"

	"layby/api"
	"layby/links"
	"layby/permits"
	"layby/tables"
	"layby/wordfrees"
	"layby/wordlocks"
	"layby/worlds"
)

// twin of a Pair or an Apart, told by the chapter's words, in a world of its own.
type twin struct {
	w      *worlds.World
	apart  bool
	line   int // that comes next; 0: it is over
	keys   [2]api.Addr
	k      uint64
	places [2]tables.Place
	lock   *wordlocks.Lock
	free   *wordfrees.Free
}

// lower of both places' locks, and the other one's.
func (as *twin) lower() (first, second api.Addr) {
	p, q := as.places[0], as.places[1]
	if p.Bucket < q.Bucket {
		return lockAt(p), lockAt(q)
	}
	return lockAt(q), lockAt(p)
}

// step of a twin: its line.
func (as *twin) step() {
	if as.apart {
		as.apartStep()
	} else {
		as.pairStep()
	}
}

func (as *twin) pairStep() {
	lower, upper := as.lower()
	switch as.line {
	case 1:
		as.k = as.w.Cells.Load(0)
		as.places = [2]tables.Place{placeOf(as.keys[0], as.k), placeOf(as.keys[1], as.k)}
		lower, _ = as.lower()
		as.lock = wordlocks.NewLock(me, lower)
		as.line = 2
	case 2:
		if as.lock.Step(as.w) {
			as.line = 3
		}
	case 3:
		k := as.w.Cells.Load(0)
		switch {
		case k != as.k:
			as.free = wordfrees.NewFree(lower)
			as.line = 5
		case as.places[0] == as.places[1]:
			as.line = 0
		default:
			as.lock = wordlocks.NewLock(me, upper)
			as.line = 4
		}
	case 4:
		if as.lock.Step(as.w) {
			as.line = 0
		}
	case 5:
		if as.free.Step(as.w) {
			as.line = 1
		}
	}
}

func (as *twin) apartStep() {
	switch as.line {
	case 1:
		if as.free.Step(as.w) {
			as.line = 2
			as.free = wordfrees.NewFree(lockAt(as.places[1]))
			if as.places[0] == as.places[1] {
				as.line = 0
			}
		}
	case 2:
		if as.free.Step(as.w) {
			as.line = 0
		}
	}
}

// got by a twin.
func (as *twin) got() (p, q tables.Place) {
	if as.line != 0 || as.apart {
		return tables.Place{}, tables.Place{}
	}
	return as.places[0], as.places[1]
}

// couple: a Pair or an Apart in a world, and its twin.
type couple struct {
	w  *worlds.World
	x  stepper
	as *twin
}

// newCouple of an operation that begins.
func newCouple(t *testing.T, of [2]api.Addr, apart bool, spin int) couple {
	t.Helper()
	c := couple{w: world(t, spin), as: &twin{w: world(t, spin)}}
	if apart {
		do(lockIt).in(c)
		c.apart(placeOf(of[0], 2), placeOf(of[1], 2))
	} else {
		c.pair(of[0], of[1])
	}
	return c
}

// pair begins.
func (c *couple) pair(key, second api.Addr) {
	c.x = NewPair(me, key, second)
	*c.as = twin{w: c.as.w, line: 1, keys: [2]api.Addr{key, second}}
}

// apart begins.
func (c *couple) apart(p, q tables.Place) {
	c.x = NewApart(p, q)
	*c.as = twin{w: c.as.w, apart: true, line: 1, places: [2]tables.Place{p, q}, free: wordfrees.NewFree(lockAt(p))}
}

// in both worlds it is done.
func (d do) in(c couple) {
	d(c.w)
	d(c.as.w)
}

// step both, and hold them against each other.
func (c couple) step(t *testing.T) {
	t.Helper()
	steps, line := c.w.Steps(), c.as.line
	over := c.x.Step(c.w)
	c.as.step()
	if over != (c.as.line == 0) {
		t.Fatalf("behind line %d: Step = %v", line, over)
	}
	want := 1
	if line == 0 {
		want = 0
	}
	if got := c.w.Steps() - steps; got != want {
		t.Fatalf("line %d: %d steps", line, got)
	}
	c.check(t)
}

// state of a world, as far as a Pair or an Apart may change it.
type state struct {
	access          api.Access
	call            permits.Call
	accesses, calls int
	links           [64]links.Link
	goes, asleep    [128]bool
}

func stateOf(w *worlds.World) state {
	s := state{access: w.Cells.Last(), call: w.Permits.Last(), accesses: w.Cells.Count(), calls: w.Permits.Count()}
	for thread := range s.links {
		s.links[thread] = w.Links.At(thread)
	}
	for parker := range s.goes {
		s.goes[parker], s.asleep[parker] = w.Permits.Goes(parker, 0), w.Permits.Asleep(parker)
	}
	return s
}

// check that an operation and its world are as the twin and its world.
func (c couple) check(t *testing.T) {
	t.Helper()
	if c.x.Over() != (c.as.line == 0) {
		t.Fatalf("line %d is next: Over = %v", c.as.line, c.x.Over())
	}
	p, q := got(c.x)
	if wantP, wantQ := c.as.got(); p != wantP || q != wantQ {
		t.Fatalf("line %d is next: got %+v, %+v; want %+v, %+v", c.as.line, p, q, wantP, wantQ)
	}
	if is, want := stateOf(c.w), stateOf(c.as.w); is != want {
		t.Fatalf("line %d is next: %+v, want %+v", c.as.line, is, want)
	}
	if is, want := c.w.Cells.Words(), c.as.w.Cells.Words(); !slices.Equal(is, want) {
		t.Fatalf("line %d is next: words %v, want %v", c.as.line, is, want)
	}
}

// Acts of somebody else, between two steps.

// none: nothing is done.
func none(*worlds.World) {}

// lockIt and freeIt: words of all locks at which the operation may be, whatever they are.

func lockIt(w *worlds.World) {
	for _, a := range lockPlaces() {
		w.Cells.Or(a, 1)
	}
}

func freeIt(w *worlds.World) {
	for _, a := range lockPlaces() {
		w.Cells.And(a, math.MaxUint64-1)
	}
}

// lockPlaces at which an operation may be.
func lockPlaces() []api.Addr {
	return []api.Addr{lockOf(one, 2), lockOf(other, 2), lockOf(one, 3), lockOf(other, 3)}
}

// queueAt all locks a thread of each one's own.
func queueAt(w *worlds.World) {
	for i, a := range lockPlaces() {
		queued(20+i, a)(w)
	}
}

// allActs: whatever somebody else may do.
func allActs() []do {
	out := []do{none, lockIt, freeIt, queueAt, both(queueAt, freeIt), unparked(myParker), unparked(myParker - 1), both(unparked(myParker), freeIt)}
	for _, word := range []uint64{0, 2, 3, 8, 9, upper + 2} {
		out = append(out, stored(0, word), both(stored(0, word), both(unparked(myParker), freeIt)))
	}
	for _, word := range []uint64{0, 2, 3, 25, 1 << 34} {
		out = append(out, stored(lockOf(one, 2), word), stored(lockOf(other, 2), word))
	}
	return out
}

// script: how an operation comes to a line.
type script struct {
	name  string
	of    [2]api.Addr
	apart bool
	line  int
	acts  []do // each one ahead of a step
}

// Acts of scripts.

var (
	toThird do = stored(0, 3)
	awake   do = both(unparked(myParker), freeIt)
)

// scripts to each line, from each line that leads to it.
func scripts() []script {
	two, back, same, twice := [2]api.Addr{one, other}, [2]api.Addr{other, one}, [2]api.Addr{one, neighbour}, [2]api.Addr{one, one}
	return []script{
		{"Pair 1", two, false, 1, nil},
		{"Pair 1 by 5", two, false, 1, []do{none, none, toThird, none}},
		{"Pair 2 by 1", two, false, 2, []do{none}},
		{"Pair 2 by 1, the second time", back, false, 2, []do{none, none, toThird, none, none}},
		{"Pair 2 by 2, it looks", two, false, 2, []do{none, lockIt}},
		{"Pair 2 by 2, it queues", two, false, 2, []do{none, lockIt, none, none}},
		{"Pair 2 by 2, it is asleep", back, false, 2, []do{none, lockIt, none, none, none, none}},
		{"Pair 2 by 2, it is awake", two, false, 2, []do{none, lockIt, none, none, none, none, awake}},
		{"Pair 3 by 2", two, false, 3, []do{none, none}},
		{"Pair 3 by 2, the keys turned", back, false, 3, []do{none, none}},
		{"Pair 3 by 2, one bucket", same, false, 3, []do{none, none}},
		{"Pair 3 by 2, behind a spin", two, false, 3, []do{none, lockIt, freeIt, none}},
		{"Pair 3 by 2, the second time", two, false, 3, []do{none, none, toThird, none, none, none}},
		{"Pair 4 by 3", two, false, 4, []do{none, none, none}},
		{"Pair 4 by 3, the keys turned", back, false, 4, []do{none, none, none}},
		{"Pair 4 by 4, it looks", two, false, 4, []do{none, none, none, lockIt}},
		{"Pair 4 by 4, it queues", two, false, 4, []do{none, none, none, lockIt, none, none}},
		{"Pair 4 by 4, it is asleep", back, false, 4, []do{none, none, none, lockIt, none, none, none, none}},
		{"Pair 4 by 4, it is awake", two, false, 4, []do{none, none, none, lockIt, none, none, none, none, awake}},
		{"Pair 5 by 3", two, false, 5, []do{none, none, toThird}},
		{"Pair 5 by 3, one bucket", same, false, 5, []do{none, none, toThird}},
		{"Pair 5 by 5", back, false, 5, []do{none, none, both(toThird, queueAt), none, none, none}},
		{"Pair over by 3", same, false, 0, []do{none, none, none}},
		{"Pair over by 3, the second time", twice, false, 0, []do{none, none, toThird, none, none, none, none}},
		{"Pair over by 4, behind one bucket", same, false, 0, []do{none, none, toThird, none, none, none, none, none}},
		{"Pair over by 4", two, false, 0, []do{none, none, none, none}},
		{"Pair over by 4, the keys turned", back, false, 0, []do{none, none, none, none}},
		{"Pair over by 4, the second time", two, false, 0, []do{none, none, toThird, none, none, none, none, none}},
		{"Apart 1", two, true, 1, nil},
		{"Apart 1 of one", same, true, 1, nil},
		{"Apart 1 by 1", two, true, 1, []do{queueAt, none, none}},
		{"Apart 1 by 1, of one", same, true, 1, []do{queueAt, none, none}},
		{"Apart 2 by 1", two, true, 2, []do{none}},
		{"Apart 2 by 1, the places turned", back, true, 2, []do{none}},
		{"Apart 2 by 1, behind a queue", back, true, 2, []do{queueAt, none, none, none, none}},
		{"Apart 2 by 2", two, true, 2, []do{none, queueAt, none, none}},
		{"Apart over by 1", same, true, 0, []do{none}},
		{"Apart over by 2", two, true, 0, []do{none, none}},
		{"Apart over by 2, behind a queue", back, true, 0, []do{none, queueAt, none, none, none, none}},
	}
}

// run acts, each one ahead of a step.
func (c couple) run(t *testing.T, acts ...do) {
	t.Helper()
	for _, act := range acts {
		act.in(c)
		c.step(t)
	}
}

// begun: a couple that is at a script's line.
func (s script) begun(t *testing.T) couple {
	t.Helper()
	c := newCouple(t, s.of, s.apart, 1)
	c.check(t)
	c.run(t, s.acts...)
	if c.as.line != s.line {
		t.Fatalf("%s: at line %d", s.name, c.as.line)
	}
	return c
}

// P16.1, P16.2: from each line on, whatever somebody else does ahead of two steps of four.
func TestLines(t *testing.T) {
	for _, s := range scripts() {
		for _, first := range allActs() {
			for _, second := range allActs() {
				c := s.begun(t)
				c.run(t, first, second, none, none)
			}
		}
		c := s.begun(t)
		c.run(t, none, none, none, none, none, none, none, none, none)
		checkQuiet(t, c.w, 1)
	}
}

// P16.1, P16.2: from each line on, three things one step behind the other.
func TestLinesAndOn(t *testing.T) {
	few := []do{none, lockIt, awake, queueAt, toThird, stored(0, 2)}
	for _, s := range scripts() {
		for _, first := range few {
			for _, second := range few {
				for _, third := range few {
					c := s.begun(t)
					c.run(t, first, second, none, third, none, none)
				}
			}
		}
	}
}

// draw of numbers that are always the same, one behind the other.
type draw uint64

// below a number: the next draw.
func (d *draw) below(n int) int {
	*d = *d*6364136223846793005 + 1442695040888963407
	return int(uint64(*d) >> 33 % uint64(n))
}

// P16.1, P16.2: long runs tell what the chapter's words tell; where one is over, another one begins: a Pair, or an Apart of what a Pair has got, or of any places.
func TestLongRuns(t *testing.T) {
	acts := allActs()
	keys := []api.Addr{one, other, neighbour, 0, 1, math.MaxUint32}
	for run := range 600 {
		d := draw(run)
		c := newCouple(t, [2]api.Addr{keys[d.below(6)], keys[d.below(6)]}, false, d.below(4))
		for range 80 {
			if i := d.below(3 * len(acts)); i < len(acts) {
				acts[i].in(c)
			}
			c.step(t)
			if c.as.line != 0 || d.below(2) == 0 {
				continue
			}
			p, q := got(c.x)
			switch {
			case d.below(8) == 0:
				c.apart(at(d.below(10), d.below(5)), at(d.below(10), d.below(5)))
			case p != tables.Place{}:
				c.apart(p, q)
			default:
				c.pair(keys[d.below(6)], keys[d.below(6)])
			}
			if d.below(2) == 0 {
				awake.in(c)
			}
		}
		checkQuiet(t, c.w, c.as.w.Spin)
	}
}

// P16.1, P16.2: what is asked of it, ahead of each line, is no step, and changes nothing; in no world nothing is done.
func TestAskedOften(t *testing.T) {
	for _, s := range scripts() {
		c := s.begun(t)
		for range 5 {
			c.check(t)
			if c.x.Step(nil) != (s.line == 0) {
				t.Errorf("%s: Step = %v in no world", s.name, s.line != 0)
			}
		}
		c.run(t, none, none, none, none, none, none, none, none)
	}
}

// P16.1, P16.2: behind its last step it is over, does nothing, and has what it had.
func TestOver(t *testing.T) {
	for _, s := range scripts() {
		if s.line != 0 {
			continue
		}
		c := s.begun(t)
		for _, act := range allActs() {
			c.run(t, act, none)
			if !c.x.Step(nil) || !c.x.Step(&worlds.World{}) {
				t.Errorf("%s: not over", s.name)
			}
			c.check(t)
		}
	}
}
