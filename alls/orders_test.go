package alls_test

import (
	"math"
	"slices"
	"testing"

	"layby/alls"
	"layby/api"
	"layby/cells"
	"layby/fairs"
	"layby/grows"
	"layby/notes"
	"layby/ones"
	"layby/parks"
	"layby/permits"
	"layby/worlds"
)

// stage of what a thread does: a step of it; is it over?
type stage func(t *testing.T) bool

// stay of a thread that is parked, or was.
type stay struct {
	x        *parks.Park
	key      api.Addr
	until    api.Until
	queued   bool // behind its line 5, and not out since
	late     bool // behind its line 10, without a permit
	taken    bool // somebody took it out
	unparked bool // and unparked it
	told     uint64
}

// pick of an All, or a One, that is under way.
type pick struct {
	x     parks.Part
	got   func() []int // whose entries it took
	all   bool
	key   api.Addr
	token uint64
	empty bool  // was the key's queue as it looked at the table last
	whose []int // it took
	woken int   // how many of them it unparked
}

// crowd: threads that park, and unpark others by Alls and Ones, in a world, while its clock ticks; others join.
type crowd struct {
	w      *worlds.World
	ticks  int         // that are left
	stages [64][]stage // that threads have left
	stays  [64]*stay   // that are under way
	picks  [64]*pick
	ended  map[parks.Outcome]int
	took   map[int]int        // Alls, by how many they took
	parked map[api.Addr][]int // threads of a key, in the order of their lines 5
	many   int                // were taken
	noted  []notes.Note
}

func newCrowd(w *worlds.World, ticks int) *crowd {
	return &crowd{w: w, ticks: ticks, ended: map[parks.Outcome]int{}, took: map[int]int{}, parked: map[api.Addr][]int{}}
}

// add a stage to what a thread has left.
func (c *crowd) add(thread int, s stage) {
	c.stages[thread] = append(c.stages[thread], s)
}

// mutex whose byte the Parks at its key look at: they may park as long as its bits 1 and 2 are set; the last one that is late clears bit 2.
const mutex api.Addr = 1024

// hooksOf a key.
func hooksOf(key api.Addr) parks.Hooks {
	if key == mutex {
		return parks.Check{Addr: mutex, All: 3, Clear: 2}
	}
	return nil
}

// park a thread: with a deadline so many ticks from when it begins, or with none (below 0).
func (c *crowd) park(thread int, key api.Addr, ticks int) {
	c.add(thread, func(t *testing.T) bool {
		s := c.stays[thread]
		if s == nil {
			s = &stay{key: key}
			if ticks >= 0 {
				s.until = c.w.Clock.After(uint64(ticks))
			}
			s.x = parks.NewPark(thread, key, uint64(key)+1, s.until, hooksOf(key))
			c.stays[thread] = s
		}
		if !s.x.Step(c.w) {
			return false
		}
		c.end(t, thread, s)
		return true
	})
}

// end of a stay: is it as it should be?
func (c *crowd) end(t *testing.T, thread int, s *stay) {
	t.Helper()
	o, token := s.x.Got(c.w)
	c.ended[o]++
	c.stays[thread] = nil
	switch {
	case s.queued && !s.unparked || token != s.told || s.taken != s.unparked:
		t.Fatalf("thread %d is over: %+v, its token %d", thread, s, token)
	case o == parks.PaUnparked && s.unparked:
	case o == parks.PaLate && s.late && s.until.On && s.until.At <= c.w.Clock.Now() && !s.taken:
	case o == parks.PaInvalid && s.key == mutex && !s.late && !s.taken:
	default:
		t.Fatalf("thread %d is over, by %d: %+v at tick %d", thread, o, s, c.w.Clock.Now())
	}
}

// all of a key are unparked by a thread, with a token.
func (c *crowd) all(thread int, key api.Addr, token uint64) {
	c.pick(thread, func() *pick {
		x := alls.NewAll(thread, key, token)
		return &pick{x: x, got: x.Got, all: true, key: key, token: token}
	})
}

// one of a key is unparked by a thread, with a token.
func (c *crowd) one(thread int, key api.Addr, token uint64) {
	c.pick(thread, func() *pick {
		x := ones.NewOne(thread, key, ones.Token(token))
		return &pick{x: x, key: key, token: token, got: func() []int {
			if got := x.Got(); got.Many > 0 {
				return []int{got.Thread}
			}
			return nil
		}}
	})
}

// pick: a thread takes somebody, or all, by what is made as it begins.
func (c *crowd) pick(thread int, made func() *pick) {
	c.add(thread, func(t *testing.T) bool {
		k := c.picks[thread]
		if k == nil {
			k = made()
			c.picks[thread] = k
		}
		accesses, calls, was := c.w.Cells.Count(), c.w.Permits.Count(), c.times(k)
		over := k.x.Step(c.w)
		if is := c.times(k); k.all && is != was {
			t.Fatalf("an All changes the timer, or the draws: %+v, it was %+v", is, was)
		}
		if got := c.w.Cells.Last(); c.w.Cells.Count() > accesses && got.Kind == api.AcLoad && got.Addr == 0 {
			k.empty = len(c.parked[k.key]) == 0
		}
		c.takes(t, thread, k)
		// Parkers of words are unparked by a Free.
		if call := c.w.Permits.Last(); c.w.Permits.Count() > calls && call.Kind == permits.CaUnpark && call.Parker%2 == 0 {
			c.wakes(t, k, call.Parker/2)
		}
		if over {
			c.left(t, thread, k)
		}
		return over
	})
}

// times: the timer of the bucket of a key, and how many draws are left.
type times struct {
	timer fairs.Timer
	left  int
}

func (c *crowd) times(k *pick) times {
	return times{c.w.Tables.Timer(placeOf(k.key, c.w.Cells.Peek(0))), c.w.Clock.Left()}
}

// takes by a step, or not: an All takes all of the key, a One the oldest one of it.
func (c *crowd) takes(t *testing.T, thread int, k *pick) {
	t.Helper()
	got, queue := k.got(), c.parked[k.key]
	if len(k.whose) > 0 || len(got) == 0 {
		if !slices.Equal(got, k.whose) {
			t.Fatalf("thread %d took %v, and tells of %v", thread, k.whose, got)
		}
		return
	}
	many := min(1, len(queue))
	if k.all {
		many = len(queue)
	}
	if !slices.Equal(got, queue[:many]) {
		t.Fatalf("thread %d took %v, and %v are parked", thread, got, queue)
	}
	k.whose, c.parked[k.key] = slices.Clone(got), queue[many:]
	c.many += many
	for _, who := range k.whose {
		c.stays[who].taken, c.stays[who].queued = true, false
		c.noted = append(c.noted, notes.Note{Step: c.w.Steps(), Thread: thread, Kind: notes.NtTake, Addr: k.key, Other: who})
	}
	clear(got)
}

// wakes a thread: that is the oldest one of those that it took, and did not unpark yet.
func (c *crowd) wakes(t *testing.T, k *pick, thread int) {
	t.Helper()
	s := c.stays[thread]
	if k.woken >= len(k.whose) || k.whose[k.woken] != thread || s == nil || s.unparked || c.w.Tokens[thread] != k.token {
		t.Fatalf("thread %d is unparked: %+v by %+v", thread, s, k)
	}
	s.unparked, s.told = true, k.token
	k.woken++
}

// left has a thread that took: all whom it took are unparked; where it took nobody, nobody was there.
func (c *crowd) left(t *testing.T, thread int, k *pick) {
	t.Helper()
	if k.woken != len(k.whose) || (len(k.whose) == 0) != k.empty {
		t.Fatalf("thread %d is over, and %+v", thread, k)
	}
	if k.all {
		c.took[k.woken]++
	}
	c.picks[thread] = nil
}

// join of a thread: the table may be replaced.
func (c *crowd) join(thread int) {
	x := grows.NewJoin(thread)
	c.add(thread, func(*testing.T) bool { return x.Step(c.w) })
}

// clock: whose turn is a tick.
const clock = 64

// step of a thread of a crowd, or a tick.
func (c *crowd) step(t *testing.T, thread int) {
	t.Helper()
	if thread == clock {
		c.w.Clock.Tick(1)
		c.ticks--
		return
	}
	steps, calls, want := c.w.Steps(), c.w.Permits.Count(), 0
	s := c.stays[thread]
	if left := c.stages[thread]; len(left) > 0 {
		want = 1
		if left[0](t) {
			c.stages[thread] = left[1:]
		}
	}
	if got := c.w.Steps() - steps; got != want {
		t.Fatalf("thread %d: %d steps at once", thread, got)
	}
	if s != nil && c.w.Permits.Count() > calls {
		c.sees(thread, s, c.w.Permits.Last())
	}
	c.check(t)
}

// sees which line of a stay a call was.
func (c *crowd) sees(thread int, s *stay, call permits.Call) {
	switch {
	case call == permits.Call{Kind: permits.CaPrepare, Parker: 2 * thread}:
		s.queued = true
		c.parked[s.key] = append(slices.Clip(c.parked[s.key]), thread)
		c.note(thread, notes.NtPark, s.key)
	case call == permits.Call{Kind: permits.CaLate, Parker: 2 * thread} && !s.unparked:
		s.late, s.queued = true, false
		if i := slices.Index(c.parked[s.key], thread); i >= 0 {
			c.parked[s.key] = slices.Delete(slices.Clone(c.parked[s.key]), i, i+1)
			c.note(thread, notes.NtGone, s.key)
		}
	}
}

// note that is to be there.
func (c *crowd) note(thread int, k notes.Kind, key api.Addr) {
	c.noted = append(c.noted, notes.Note{Step: c.w.Steps(), Thread: thread, Kind: k, Addr: key, Other: -1})
}

// check that all who are parked are where their keys hash to, once, those of one key in their order, and nobody else is; and that notes say so.
func (c *crowd) check(t *testing.T) {
	t.Helper()
	if got := c.w.Notes.Count(); got != len(c.noted) || got > 0 && c.w.Notes.Since(got - 1)[0] != c.noted[got-1] {
		t.Fatalf("%d notes, want %d: %+v, want %+v", got, len(c.noted), c.w.Notes.All(), c.noted)
	}
	is, word := map[api.Addr][]int{}, c.w.Cells.Peek(0)
	for bits := 2; bits <= 8; bits++ {
		if !c.w.Tables.Has(bits) {
			continue
		}
		for n := range 1 << bits {
			for _, e := range c.w.Tables.Queue(bucket(bits, n)) {
				if bucket(bits, n) != placeOf(e.Key, word) || e.Token != uint64(e.Key)+1 {
					t.Fatalf("%+v is in bucket %d by %d bits", e, n, bits)
				}
				is[e.Key] = append(is[e.Key], e.Thread)
			}
		}
	}
	for _, key := range keys() {
		if !slices.Equal(is[key], c.parked[key]) {
			t.Fatalf("key %d: %v, want %v", key, is[key], c.parked[key])
		}
		delete(is, key)
	}
	if len(is) != 0 {
		t.Fatalf("of other keys: %v", is)
	}
	// As long as nobody has the lock of its bucket, the mutex' byte says whether somebody is queued.
	if byte, free := c.w.Cells.Peek(mutex), c.w.Cells.Peek(lockOf(placeOf(mutex, word)))%2 == 0; free && len(c.parked[mutex]) > 0 && byte != 3 {
		t.Fatalf("%v are parked at the mutex, and its byte is %d", c.parked[mutex], byte)
	}
}

// goes: may a thread go on, and is there something to do?
func (c *crowd) goes(thread int) bool {
	if thread == clock {
		return c.ticks > 0
	}
	now := c.w.Clock.Now()
	return len(c.stages[thread]) > 0 && c.w.Permits.Goes(2*thread, now) && c.w.Permits.Goes(2*thread+1, now)
}

// may go on: who does; the clock, if there are ticks.
func (c *crowd) may() []int {
	var out []int
	for thread := range clock + 1 {
		if c.goes(thread) {
			out = append(out, thread)
		}
	}
	return out
}

// through: all go on, by a rule, till nobody does.
func (c *crowd) through(t *testing.T, next func(may []int) int) {
	t.Helper()
	for range 400000 {
		may := c.may()
		if len(may) == 0 {
			c.checkEnd(t)
			return
		}
		c.step(t, next(may))
	}
	t.Fatal("they go on for ever")
}

// checkEnd: that who is not through is asleep, in just one queue, and its deadline did not come; as many were unparked as were taken; all locks are 0.
func (c *crowd) checkEnd(t *testing.T) {
	t.Helper()
	for thread, left := range c.stages {
		s := c.stays[thread]
		if (s != nil) != (len(left) > 0) || c.picks[thread] != nil || c.w.Permits.Asleep(2*thread+1) || c.w.Permits.Asleep(2*thread) != (s != nil) {
			t.Fatalf("thread %d has %d stages left, and is asleep: %v", thread, len(left), c.w.Permits.Asleep(2*thread))
		}
		places := c.w.Tables.Places(thread)
		if s == nil && len(places) != 0 || s != nil && (len(places) != 1 || !s.queued || s.taken || s.until.On && s.until.At <= c.w.Clock.Now()) {
			t.Fatalf("thread %d is at %v: %+v", thread, places, s)
		}
	}
	for _, word := range c.w.Cells.Words() {
		if word.Addr >= 256 && word.Addr < 1024 {
			t.Fatalf("at %d stands %d", word.Addr, word.Value)
		}
	}
	if c.ended[parks.PaUnparked] != c.many || !slices.Equal(c.w.Notes.All(), c.noted) {
		t.Fatalf("%d are taken, %d unparked; notes %+v, want %+v", c.many, c.ended[parks.PaUnparked], c.w.Notes.All(), c.noted)
	}
}

// eachOrder of a crowd's steps, in which who may go on stands back for another one so many times at most: made anew for each.
func eachOrder(t *testing.T, backs int, made func() *crowd) int {
	t.Helper()
	orders := 0
	var from func(steps []int, backs int)
	from = func(steps []int, backs int) {
		c := made()
		for _, thread := range steps {
			c.step(t, thread)
		}
		// As long as it is told who is next, the same crowd goes on.
		for may := c.may(); ; may = c.may() {
			if len(may) == 0 {
				orders++
				c.checkEnd(t)
				return
			}
			on := -1
			if len(steps) > 0 && c.goes(steps[len(steps)-1]) {
				on = steps[len(steps)-1]
			}
			for _, thread := range may {
				if on != -1 && on != thread && backs > 0 {
					from(append(slices.Clip(steps), thread), backs-1)
				}
				if on == -1 && thread != may[0] {
					from(append(slices.Clip(steps), thread), backs)
				}
			}
			if on == -1 {
				on = may[0]
			}
			if steps = append(slices.Clip(steps), on); len(steps) > 1000 {
				t.Fatal("they go on for ever")
			}
			c.step(t, on)
		}
	}
	from(nil, backs)
	return orders
}

// crowdWorld: with so many threads that joined, and a mutex that may be parked at.
func crowdWorld(t *testing.T, spin, joined int) *worlds.World {
	t.Helper()
	return world(t, spin, cells.Word{Addr: 1, Value: uint64(joined)}, cells.Word{Addr: mutex, Value: 3})
}

// P20.2: few threads, and ticks, in each order with few that stand back.
func TestEachOrder(t *testing.T) {
	for name, o := range map[string]struct {
		spin, backs, ticks int
		orders             int // at the least
		made               func(c *crowd)
	}{
		"one, and an All": {0, 4, 0, 300, func(c *crowd) {
			c.park(1, one, -1)
			c.all(2, one, 9)
		}},
		"one, and an All, with spins, and a tick": {1, 3, 1, 300, func(c *crowd) {
			c.park(1, one, -1)
			c.all(2, one, 0)
		}},
		"one that may be late, and an All": {0, 3, 1, 300, func(c *crowd) {
			c.park(1, one, 1)
			c.all(2, one, 9)
		}},
		"two, and an All": {0, 2, 0, 300, func(c *crowd) {
			c.park(1, one, -1)
			c.park(2, one, -1)
			c.all(3, one, 9)
		}},
		"two, one of which may be late, and an All": {0, 1, 1, 200, func(c *crowd) {
			c.park(1, one, -1)
			c.park(2, one, 1)
			c.all(3, one, 9)
		}},
		"three, and an All": {0, 1, 0, 200, func(c *crowd) {
			c.park(1, one, -1)
			c.park(2, one, -1)
			c.park(3, one, 0)
			c.all(4, one, 9)
		}},
		"one, and two Alls": {0, 3, 0, 300, func(c *crowd) {
			c.park(1, one, -1)
			c.all(2, one, 9)
			c.all(3, one, 8)
		}},
		"two, and two Alls": {0, 1, 0, 200, func(c *crowd) {
			c.park(1, one, -1)
			c.park(2, one, 0)
			c.all(3, one, 9)
			c.all(4, one, 8)
		}},
		"two, an All and a One": {0, 1, 0, 200, func(c *crowd) {
			c.park(1, one, -1)
			c.park(2, one, -1)
			c.all(3, one, 9)
			c.one(4, one, 8)
		}},
		"two of one bucket, and two Alls": {0, 1, 0, 200, func(c *crowd) {
			c.park(1, one, -1)
			c.park(2, neighbour, 0)
			c.all(3, neighbour, 9)
			c.all(4, one, 8)
		}},
		"two of two buckets, and two Alls": {0, 1, 0, 200, func(c *crowd) {
			c.park(1, one, -1)
			c.park(2, other, -1)
			c.all(3, other, 9)
			c.all(4, one, 8)
		}},
		"two at the mutex, and two Alls": {0, 1, 0, 200, func(c *crowd) {
			c.park(1, mutex, -1)
			c.park(2, mutex, 0)
			c.all(3, mutex, 9)
			c.all(4, mutex, 0)
		}},
		"one that parks again, and two Alls": {0, 3, 0, 200, func(c *crowd) {
			c.park(1, one, -1)
			c.park(1, one, 0)
			c.all(2, one, 9)
			c.all(2, one, 8)
		}},
		"two that unpark each other": {0, 2, 1, 300, func(c *crowd) {
			c.park(1, one, 1)
			c.all(1, other, 9)
			c.all(2, one, 8)
			c.park(2, other, 1)
		}},
		"two, an All, and another one joins": {0, 1, 0, 200, func(c *crowd) {
			c.park(1, one, -1)
			c.park(2, one, -1)
			c.all(3, one, 9)
			c.join(4)
		}},
	} {
		t.Run(name, func(t *testing.T) {
			orders := eachOrder(t, o.backs, func() *crowd {
				c := newCrowd(crowdWorld(t, o.spin, 1), o.ticks)
				o.made(c)
				return c
			})
			if orders < o.orders {
				t.Errorf("%d orders", orders)
			}
		})
	}
}

// keys of crowds: several in each bucket of small tables.
func keys() []api.Addr {
	return []api.Addr{one, mutex, neighbour, other, 0, 1, 1056, 1057, 1160, 1164, 1 << 31, math.MaxUint32}
}

// drawn crowd: its threads, and what they do, by a draw.
func drawn(t *testing.T, d *draw, run, most, each int) *crowd {
	t.Helper()
	threads, many := 1+d.below(most), 1+d.below(len(keys()))
	c := newCrowd(crowdWorld(t, d.below(4), d.below(30)), d.below(3*threads))
	for i := range threads {
		thread := (i*37 + run) % 64
		for range 1 + d.below(each) {
			key := keys()[d.below(many)]
			switch kind := d.below(12); {
			case kind < 7:
				c.park(thread, key, d.below(9)-1-d.below(4))
			case kind < 10:
				c.all(thread, key, uint64(d.below(1000)))
			case kind < 11:
				c.one(thread, key, uint64(d.below(1000)))
			default:
				c.join(thread)
			}
		}
	}
	return c
}

// count what crowds ended by, and how many Alls took: each sort of it often.
type count struct {
	ended map[parks.Outcome]int
	took  map[int]int
}

func newCount() count {
	return count{map[parks.Outcome]int{}, map[int]int{}}
}

// add a crowd.
func (n count) add(c *crowd) {
	for o, times := range c.ended {
		n.ended[o] += times
	}
	for many, times := range c.took {
		n.took[many] += times
	}
}

// check that each sort is there so often.
func (n count) check(t *testing.T, often int) {
	t.Helper()
	for _, o := range []parks.Outcome{parks.PaInvalid, parks.PaUnparked, parks.PaLate} {
		if n.ended[o] < often {
			t.Errorf("%d ended by %d", n.ended[o], o)
		}
	}
	for many := range 5 {
		if n.took[many] < often {
			t.Errorf("%d took %d", n.took[many], many)
		}
	}
}

// P20.2: many threads that park, and unpark, in many orders of their steps and the clock's ticks; those that are over, or asleep, are asked, too.
func TestManyOrders(t *testing.T) {
	all := newCount()
	for run := range 600 {
		d := draw(run)
		most := 64
		if run%4 > 0 {
			most = 6
		}
		c := drawn(t, &d, run, most, 5)
		for range d.below(400) {
			c.step(t, d.below(64))
		}
		c.through(t, func(may []int) int { return may[d.below(len(may))] })
		all.add(c)
	}
	all.check(t, 20)
}

// P20.2: many orders in which a thread takes several steps ahead of others.
func TestRuns(t *testing.T) {
	all := newCount()
	for run := range 2000 {
		d := draw(run)
		c := drawn(t, &d, run, 10, 6)
		on := -1
		c.through(t, func(may []int) int {
			if !slices.Contains(may, on) || d.below(8) == 0 {
				on = may[d.below(len(may))]
			}
			return on
		})
		all.add(c)
	}
	all.check(t, 20)
}

// P20.2: in rounds, a step each; one always ahead of all others, or behind them (so all ticks come last, or first).
func TestInRounds(t *testing.T) {
	for run := range 150 {
		d := draw(run)
		round := drawn(t, &d, run, 20, 4)
		on := -1
		round.through(t, func(may []int) int {
			on++
			return may[on%len(may)]
		})
		drawn(t, &d, run, 20, 4).through(t, func(may []int) int { return may[0] })
		drawn(t, &d, run, 20, 4).through(t, func(may []int) int { return may[len(may)-1] })
	}
}

// P20.2: all threads but one park at a key; that one unparks all of them at once, the oldest first; some park again, behind that, and the next one unparks these.
func TestAllAtOneKey(t *testing.T) {
	for run := range 6 {
		d := draw(run)
		next := func(may []int) int { return may[d.below(len(may))] }
		c := newCrowd(crowdWorld(t, run%3, 0), 0)
		for thread := range 63 {
			c.park(thread, one, -1)
			if thread%5 == 0 {
				c.park(thread, one, -1)
			}
		}
		c.through(t, next)
		if len(c.parked[one]) != 63 {
			t.Fatalf("%v are parked", c.parked[one])
		}
		for _, want := range []struct{ left, ended int }{{13, 63}, {0, 76}, {0, 76}} {
			c.all(63, one, 100)
			c.through(t, next)
			if len(c.parked[one]) != want.left || c.ended[parks.PaUnparked] != want.ended {
				t.Errorf("%v are parked; %v ended", c.parked[one], c.ended)
			}
		}
		if c.took[63] != 1 || c.took[13] != 1 || c.took[0] != 1 {
			t.Errorf("they took %v", c.took)
		}
	}
}
