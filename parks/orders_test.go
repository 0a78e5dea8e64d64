package parks_test

import (
	"math"
	"slices"
	"testing"

	"layby/api"
	"layby/buckets"
	"layby/cells"
	"layby/grows"
	"layby/lines"
	"layby/notes"
	"layby/parks"
	"layby/permits"
	"layby/wordfrees"
	"layby/worlds"
)

// stage of what a thread does: a step of it; is it over?
type stage func(t *testing.T) bool

// stay of a thread that is parked, or was.
type stay struct {
	x        *parks.Park
	key      api.Addr
	token    uint64
	until    api.Until
	queued   bool // behind its line 5, and not out since
	late     bool // behind its line 10, without a permit
	unparked bool // somebody did
	told     uint64
}

// crowd: threads that park, in a world, while its clock ticks; some crowds have threads that unpark others, too, or join.
type crowd struct {
	w      *worlds.World
	ticks  int         // that are left
	stages [64][]stage // that threads have left
	stays  [64]*stay   // that are under way
	ended  map[parks.Outcome]int
	parked map[api.Addr][]int // threads of a key, in the order of their lines 5
	noted  []notes.Note
	alone  bool // nobody unparks
}

func newCrowd(w *worlds.World, ticks int) *crowd {
	return &crowd{w: w, ticks: ticks, ended: map[parks.Outcome]int{}, parked: map[api.Addr][]int{}, alone: true}
}

// add stages to what a thread has left.
func (c *crowd) add(thread int, stages ...stage) {
	c.stages[thread] = append(c.stages[thread], stages...)
}

// mutex whose byte the Parks at its key look at: they may park as long as its bits 1 and 2 are set; the last one that is late clears bit 2.
const mutex api.Addr = 1024

// hooksOf a key.
func hooksOf(key api.Addr) parks.Hooks {
	if key == mutex {
		return parks.Check{Addr: mutex, All: 3, Clear: 2}
	}
	return nil
}

// park a thread: with a deadline so many ticks from when it begins, or with none (below 0).
func (c *crowd) park(thread int, key api.Addr, ticks int) {
	c.add(thread, func(t *testing.T) bool {
		s := c.stays[thread]
		if s == nil {
			s = &stay{key: key, token: uint64(key) + 1}
			if ticks >= 0 {
				s.until = c.w.Clock.After(uint64(ticks))
			}
			s.x = parks.NewPark(thread, key, s.token, s.until, hooksOf(key))
			c.stays[thread] = s
		}
		over := s.x.Step(c.w)
		if over != s.x.Over() {
			t.Fatalf("thread %d: Step = %v, Over = %v", thread, over, s.x.Over())
		}
		if !over {
			return false
		}
		c.end(t, thread, s)
		return true
	})
}

// end of a stay: is it as it should be?
func (c *crowd) end(t *testing.T, thread int, s *stay) {
	t.Helper()
	o, token := s.x.Got(c.w)
	c.ended[o]++
	c.stays[thread] = nil
	switch {
	case s.x.Parked() || s.queued && !s.unparked || token != s.told:
		t.Fatalf("thread %d is over: parked %v, %+v, its token %d", thread, s.x.Parked(), s, token)
	case o == parks.PaUnparked && s.unparked:
	case o == parks.PaLate && s.late && s.until.On && s.until.At <= c.w.Clock.Now() && !s.unparked:
	case o == parks.PaInvalid && s.key == mutex && !s.late && !s.unparked:
	default:
		t.Fatalf("thread %d is over, by %d: %+v at tick %d", thread, o, s, c.w.Clock.Now())
	}
}

// take the oldest one of a key, and unpark it.
func (c *crowd) take(thread int, key api.Addr, token uint64) {
	c.alone = false
	x, whose := buckets.NewEnter(thread, key), -1
	var back *wordfrees.Free
	c.add(thread, func(t *testing.T) bool {
		if !x.Step(c.w) {
			return false
		}
		queue := c.w.Tables.Queue(x.Got())
		if e, rest, is := lines.Cut(queue, lines.First(queue, key)); is {
			whose = e.Thread
			c.w.Tables.Put(x.Got(), rest)
			c.out(t, whose)
		}
		return true
	}, func(t *testing.T) bool {
		back = wordfrees.NewFree(buckets.Lock(x.Got()))
		if whose == -1 {
			c.w.Cells.Load(0)
			return true
		}
		s := c.stays[whose]
		c.w.Permits.Unpark(2 * whose)
		c.w.Tokens[whose], s.unparked, s.told = token, true, token
		return true
	}, func(*testing.T) bool { return back.Step(c.w) })
}

// out of its key's queue is the oldest thread.
func (c *crowd) out(t *testing.T, thread int) {
	t.Helper()
	s := c.stays[thread]
	if s == nil || !s.queued || c.parked[s.key][0] != thread {
		t.Fatalf("thread %d is not the oldest one", thread)
	}
	c.parked[s.key], s.queued = c.parked[s.key][1:], false
}

// join of a thread: the table may be replaced.
func (c *crowd) join(thread int) {
	x := grows.NewJoin(thread)
	c.add(thread, func(*testing.T) bool { return x.Step(c.w) })
}

// clock: whose turn is a tick.
const clock = 64

// step of a thread of a crowd, or a tick.
func (c *crowd) step(t *testing.T, thread int) {
	t.Helper()
	if thread == clock {
		c.w.Clock.Tick(1)
		c.ticks--
		return
	}
	steps, calls, want := c.w.Steps(), c.w.Permits.Count(), 0
	s := c.stays[thread]
	if left := c.stages[thread]; len(left) > 0 {
		want = 1
		if left[0](t) {
			c.stages[thread] = left[1:]
		}
	}
	if got := c.w.Steps() - steps; got != want {
		t.Fatalf("thread %d: %d steps at once", thread, got)
	}
	if s != nil && c.w.Permits.Count() > calls {
		c.sees(thread, s, c.w.Permits.Last())
	}
	c.check(t)
}

// sees which line of a stay a call was.
func (c *crowd) sees(thread int, s *stay, call permits.Call) {
	switch {
	case call == permits.Call{Kind: permits.CaPrepare, Parker: 2 * thread}:
		s.queued = true
		c.parked[s.key] = append(slices.Clip(c.parked[s.key]), thread)
		c.note(thread, notes.NtPark, s.key)
	case call == permits.Call{Kind: permits.CaLate, Parker: 2 * thread} && !s.unparked:
		s.late, s.queued = true, false
		i := slices.Index(c.parked[s.key], thread)
		if i >= 0 {
			c.parked[s.key] = slices.Delete(slices.Clone(c.parked[s.key]), i, i+1)
			c.note(thread, notes.NtGone, s.key)
		}
	}
}

// note that is to be there.
func (c *crowd) note(thread int, k notes.Kind, key api.Addr) {
	c.noted = append(c.noted, notes.Note{Step: c.w.Steps(), Thread: thread, Kind: k, Addr: key, Other: -1})
}

// check that all who are parked are where their keys hash to, once, those of one key in their order, and nobody else is; and that notes say so.
func (c *crowd) check(t *testing.T) {
	t.Helper()
	if got := c.w.Notes.Count(); got != len(c.noted) || got > 0 && c.w.Notes.Since(got - 1)[0] != c.noted[got-1] {
		t.Fatalf("%d notes, want %d: %+v, want %+v", got, len(c.noted), c.w.Notes.All(), c.noted)
	}
	is, word := map[api.Addr][]int{}, c.w.Cells.Peek(0)
	for bits := 2; bits <= 8; bits++ {
		if !c.w.Tables.Has(bits) {
			continue
		}
		for n := range 1 << bits {
			for _, e := range c.w.Tables.Queue(bucket(bits, n)) {
				if bucket(bits, n) != placeOf(e.Key, word) || e.Token != uint64(e.Key)+1 {
					t.Fatalf("%+v is in bucket %d by %d bits", e, n, bits)
				}
				is[e.Key] = append(is[e.Key], e.Thread)
			}
		}
	}
	for _, key := range keys() {
		if !slices.Equal(is[key], c.parked[key]) {
			t.Fatalf("key %d: %v, want %v", key, is[key], c.parked[key])
		}
		delete(is, key)
	}
	if len(is) != 0 {
		t.Fatalf("of other keys: %v", is)
	}
	// As long as nobody has the lock of its bucket, the mutex' byte says whether somebody is queued.
	if byte, free := c.w.Cells.Peek(mutex), c.w.Cells.Peek(lockOf(placeOf(mutex, word)))%2 == 0; free && c.alone && len(c.parked[mutex]) > 0 && byte != 3 {
		t.Fatalf("%v are parked at the mutex, and its byte is %d", c.parked[mutex], byte)
	}
}

// goes: may a thread go on, and is there something to do?
func (c *crowd) goes(thread int) bool {
	if thread == clock {
		return c.ticks > 0
	}
	now := c.w.Clock.Now()
	return len(c.stages[thread]) > 0 && c.w.Permits.Goes(2*thread, now) && c.w.Permits.Goes(2*thread+1, now)
}

// may go on: who does; the clock, if there are ticks.
func (c *crowd) may() []int {
	var out []int
	for thread := range clock + 1 {
		if c.goes(thread) {
			out = append(out, thread)
		}
	}
	return out
}

// through: all go on, by a rule, till nobody does.
func (c *crowd) through(t *testing.T, next func(may []int) int) {
	t.Helper()
	for range 400000 {
		may := c.may()
		if len(may) == 0 {
			c.checkEnd(t)
			return
		}
		c.step(t, next(may))
	}
	t.Fatal("they go on for ever")
}

// checkEnd: that who is not through is asleep, in just one queue, and its deadline did not come; all locks are 0.
func (c *crowd) checkEnd(t *testing.T) {
	t.Helper()
	for thread, left := range c.stages {
		s := c.stays[thread]
		if (s != nil) != (len(left) > 0) || c.w.Permits.Asleep(2*thread+1) || c.w.Permits.Asleep(2*thread) != (s != nil) {
			t.Fatalf("thread %d has %d stages left, and is asleep: %v", thread, len(left), c.w.Permits.Asleep(2*thread))
		}
		places := c.w.Tables.Places(thread)
		if s == nil {
			if len(places) != 0 {
				t.Fatalf("thread %d is over, and at %v", thread, places)
			}
			continue
		}
		if o, token := s.x.Got(c.w); !s.queued || !s.x.Parked() || o != parks.PaNone || token != 0 || s.until.On && s.until.At <= c.w.Clock.Now() {
			t.Fatalf("thread %d sleeps: %+v", thread, s)
		}
		if len(places) != 1 || places[0] != placeOf(s.key, c.w.Cells.Peek(0)) || c.w.Cells.Peek(api.Addr(64+thread)) != uint64(s.key) {
			t.Fatalf("thread %d is at %v, its key is %d, its cell says %d", thread, places, s.key, c.w.Cells.Peek(api.Addr(64+thread)))
		}
	}
	for _, word := range c.w.Cells.Words() {
		if word.Addr >= 256 && word.Addr < 1024 {
			t.Fatalf("at %d stands %d", word.Addr, word.Value)
		}
	}
	if got := c.w.Notes.All(); !slices.Equal(got, c.noted) {
		t.Fatalf("notes %+v, want %+v", got, c.noted)
	}
	if c.alone && c.ended[parks.PaUnparked] != 0 {
		t.Fatalf("%d are unparked, and nobody unparked them", c.ended[parks.PaUnparked])
	}
}

// eachOrder of a crowd's steps, in which who may go on stands back for another one so many times at most: made anew for each.
func eachOrder(t *testing.T, backs int, made func() *crowd) int {
	t.Helper()
	orders := 0
	var from func(steps []int, backs int)
	from = func(steps []int, backs int) {
		c := made()
		for _, thread := range steps {
			c.step(t, thread)
		}
		// As long as it is told who is next, the same crowd goes on.
		for may := c.may(); ; may = c.may() {
			if len(may) == 0 {
				orders++
				c.checkEnd(t)
				return
			}
			on := -1
			if len(steps) > 0 && c.goes(steps[len(steps)-1]) {
				on = steps[len(steps)-1]
			}
			for _, thread := range may {
				if on != -1 && on != thread && backs > 0 {
					from(append(slices.Clip(steps), thread), backs-1)
				}
				if on == -1 && thread != may[0] {
					from(append(slices.Clip(steps), thread), backs)
				}
			}
			if on == -1 {
				on = may[0]
			}
			if steps = append(slices.Clip(steps), on); len(steps) > 1000 {
				t.Fatal("they go on for ever")
			}
			c.step(t, on)
		}
	}
	from(nil, backs)
	return orders
}

// crowdWorld: with so many threads that joined, and a mutex that may be parked at.
func crowdWorld(t *testing.T, spin, joined int) *worlds.World {
	t.Helper()
	return world(t, spin, cells.Word{Addr: 1, Value: uint64(joined)}, cells.Word{Addr: mutex, Value: 3})
}

// P18.4: few threads, and ticks, in each order with few that stand back.
func TestEachOrder(t *testing.T) {
	for name, o := range map[string]struct {
		spin, backs, ticks int
		orders             int // at the least
		made               func(c *crowd)
	}{
		"two of one key": {0, 4, 0, 300, func(c *crowd) {
			c.park(1, one, -1)
			c.park(2, one, -1)
		}},
		"two of one bucket, with spins": {1, 3, 0, 100, func(c *crowd) {
			c.park(1, one, -1)
			c.park(63, neighbour, -1)
		}},
		"one that is late": {0, 99, 2, 50, func(c *crowd) {
			c.park(1, one, 1)
		}},
		"one that is late at once, twice": {0, 9, 1, 20, func(c *crowd) {
			c.park(1, one, 0)
			c.park(1, other, 0)
		}},
		"two that are late": {0, 3, 1, 300, func(c *crowd) {
			c.park(1, one, 0)
			c.park(2, one, 1)
		}},
		"one that is late, and one that is not": {1, 3, 2, 300, func(c *crowd) {
			c.park(1, one, 2)
			c.park(2, one, -1)
		}},
		"three of one key": {0, 1, 1, 300, func(c *crowd) {
			c.park(1, one, 1)
			c.park(2, one, 0)
			c.park(3, one, -1)
		}},
		"two at the mutex, that are late": {0, 2, 1, 300, func(c *crowd) {
			c.park(1, mutex, 0)
			c.park(2, mutex, 1)
		}},
		"three at the mutex, one too late to park": {0, 2, 0, 200, func(c *crowd) {
			c.park(1, mutex, 0)
			c.park(2, mutex, -1)
			c.park(3, mutex, 0)
		}},
		"one that is unparked": {0, 4, 0, 300, func(c *crowd) {
			c.park(1, one, -1)
			c.take(2, one, 9)
		}},
		"one that is unparked, or late": {0, 3, 1, 300, func(c *crowd) {
			c.park(1, one, 1)
			c.take(2, one, 9)
		}},
		"one that is unparked, or late at once": {1, 3, 0, 200, func(c *crowd) {
			c.park(1, one, 0)
			c.take(2, one, 9)
		}},
		"two, one of whom is unparked": {0, 2, 0, 200, func(c *crowd) {
			c.park(1, one, 0)
			c.park(2, one, -1)
			c.take(3, one, 9)
		}},
		"one, while another one joins": {0, 3, 0, 300, func(c *crowd) {
			c.park(1, one, 0)
			c.join(2)
		}},
		"two, while another one joins": {0, 2, 0, 300, func(c *crowd) {
			c.park(1, one, 0)
			c.park(2, neighbour, -1)
			c.join(3)
		}},
	} {
		t.Run(name, func(t *testing.T) {
			orders := eachOrder(t, o.backs, func() *crowd {
				c := newCrowd(crowdWorld(t, o.spin, 1), o.ticks)
				o.made(c)
				return c
			})
			if orders < o.orders {
				t.Errorf("%d orders", orders)
			}
		})
	}
}

// keys of crowds: several in each bucket of small tables.
func keys() []api.Addr {
	return []api.Addr{one, mutex, neighbour, other, 0, 1, 1056, 1057, 1160, 1164, 1 << 31, math.MaxUint32}
}

// drawn crowd: its threads, and what they do, by a draw: they park alone, or others unpark them, and join.
func drawn(t *testing.T, d *draw, run, most, each int, alone bool) *crowd {
	t.Helper()
	threads, many := 1+d.below(most), 1+d.below(len(keys()))
	c := newCrowd(crowdWorld(t, d.below(4), d.below(30)), d.below(3*threads))
	for i := range threads {
		thread := (i*37 + run) % 64
		for range 1 + d.below(each) {
			key := keys()[d.below(many)]
			switch kind := d.below(8); {
			case alone || kind < 5:
				c.park(thread, key, d.below(6)-1-d.below(2))
			case kind < 7:
				c.take(thread, key, uint64(d.below(1000)))
			default:
				c.join(thread)
			}
		}
	}
	return c
}

// P18.4: many threads that park alone, in many orders of their steps and the clock's ticks; those that are over, or asleep, are asked, too.
func TestManyOrders(t *testing.T) {
	ended := map[parks.Outcome]int{}
	for run := range 600 {
		d := draw(run)
		most := 64
		if run%4 > 0 {
			most = 6
		}
		c := drawn(t, &d, run, most, 5, run%2 == 0)
		for range d.below(400) {
			c.step(t, d.below(64))
		}
		c.through(t, func(may []int) int { return may[d.below(len(may))] })
		checkQuiet(t, c.w, c.w.Spin)
		for o, n := range c.ended {
			ended[o] += n
		}
	}
	for _, o := range []parks.Outcome{parks.PaInvalid, parks.PaUnparked, parks.PaLate} {
		if ended[o] < 100 {
			t.Errorf("%d ended by %d", ended[o], o)
		}
	}
}

// P18.4: many orders in which a thread takes several steps ahead of others.
func TestRuns(t *testing.T) {
	for run := range 2000 {
		d := draw(run)
		c := drawn(t, &d, run, 10, 6, run%2 == 0)
		on := -1
		c.through(t, func(may []int) int {
			if !slices.Contains(may, on) || d.below(8) == 0 {
				on = may[d.below(len(may))]
			}
			return on
		})
	}
}

// P18.4: in rounds, a step each; one always ahead of all others, or behind them (so all ticks come last, or first).
func TestInRounds(t *testing.T) {
	for run := range 150 {
		d := draw(run)
		round := drawn(t, &d, run, 20, 4, run%2 == 0)
		on := -1
		round.through(t, func(may []int) int {
			on++
			return may[on%len(may)]
		})
		drawn(t, &d, run, 20, 4, run%2 == 0).through(t, func(may []int) int { return may[0] })
		drawn(t, &d, run, 20, 4, run%2 == 0).through(t, func(may []int) int { return may[len(may)-1] })
	}
}

// P18.4: all threads park at one key: they stand in the order of their lines 5; one deadline behind the other comes, and each one goes with its own.
func TestAllAtOneKey(t *testing.T) {
	for run := range 6 {
		d := draw(run)
		c := newCrowd(crowdWorld(t, run%3, 0), 0)
		for thread := range 64 {
			c.park(thread, mutex, 1+(thread*29)%64)
		}
		c.through(t, func(may []int) int { return may[d.below(len(may))] })
		for tick := 1; tick <= 64; tick++ {
			if got := len(c.parked[mutex]); got != 65-tick || c.w.Cells.Peek(mutex) != 3 {
				t.Fatalf("ahead of tick %d %d are parked, and the byte is %d", tick, got, c.w.Cells.Peek(mutex))
			}
			c.ticks = 1
			c.through(t, func(may []int) int { return may[d.below(len(may))] })
		}
		if c.ended[parks.PaLate] != 64 || c.w.Cells.Peek(mutex) != 1 {
			t.Errorf("%v ended, and the byte is %d", c.ended, c.w.Cells.Peek(mutex))
		}
	}
}
