package filters_test

import (
	"math"
	"slices"
	"testing"

	"layby/api"
	"layby/cells"
	"layby/fairs"
	"layby/filters"
	"layby/grows"
	"layby/lines"
	"layby/notes"
	"layby/ones"
	"layby/parks"
	"layby/permits"
	"layby/worlds"
)

// stage of what a thread does: a step of it; is it over?
type stage func(t *testing.T) bool

// stay of a thread that is parked, or was.
type stay struct {
	x        *parks.Park
	key      api.Addr
	token    uint64 // by which it parks
	until    api.Until
	queued   bool // behind its line 5, and not out since
	late     bool // behind its line 10, without a permit
	taken    bool // somebody took it out
	unparked bool // and unparked it
	told     uint64
}

// pick of a Some, or a One, that is under way.
type pick struct {
	x      parks.Part
	got    func() (ones.Result, []int)
	filter func() lines.Filter // a new one
	kind   notes.Kind          // by which it notes whom it took
	key    api.Addr
	token  uint64
	asked  []ones.Result // of its answer
	want   taken         // of it, as it looked at the table last
	told   bool          // what it took is told, and that is
	is     taken
	woken  int // how many of them it unparked
}

// taken of some of a key: but for whether the timer fired.
type taken struct {
	result  ones.Result
	threads []int
}

// crowd: threads that park, and unpark others by Somes and Ones, in a world, while its clock ticks; others join.
type crowd struct {
	w      *worlds.World
	ticks  int         // that are left
	stages [64][]stage // that threads have left
	stays  [64]*stay   // that are under way
	picks  [64]*pick
	ended  map[parks.Outcome]int
	found  map[ones.Result]int // results of Somes, but for threads
	parked map[api.Addr][]int  // threads of a key, in the order of their lines 5
	many   int                 // were taken
	noted  []notes.Note
}

func newCrowd(w *worlds.World, ticks int) *crowd {
	return &crowd{w: w, ticks: ticks, ended: map[parks.Outcome]int{}, found: map[ones.Result]int{}, parked: map[api.Addr][]int{}}
}

// add a stage to what a thread has left.
func (c *crowd) add(thread int, s stage) {
	c.stages[thread] = append(c.stages[thread], s)
}

// mutex whose byte the Parks at its key look at: they may park as long as its bits 1 and 2 are set; the last one that is late clears bit 2. Who unparks there says by bit 2 whether others are left.
const mutex api.Addr = 1024

// hooksOf a key.
func hooksOf(key api.Addr) parks.Hooks {
	if key == mutex {
		return parks.Check{Addr: mutex, All: 3, Clear: 2}
	}
	return nil
}

// answering: an answer that keeps what it is told. At the mutex it has a step, that says at the byte whether others are left.
type answering struct {
	k *pick
}

func (a answering) Begin(r ones.Result) parks.Part {
	a.k.asked = append(a.k.asked, r)
	if a.k.key == mutex {
		return a
	}
	return nil
}

func (a answering) Step(w *worlds.World) bool {
	byte := uint64(1)
	if a.k.asked[0].More {
		byte = 3
	}
	w.Cells.Store(mutex, byte)
	return true
}

func (a answering) Token() uint64 { return a.k.token }

// park a thread, by a token: with a deadline so many ticks from when it begins, or with none (below 0).
func (c *crowd) park(thread int, key api.Addr, token uint64, ticks int) {
	c.add(thread, func(t *testing.T) bool {
		s := c.stays[thread]
		if s == nil {
			s = &stay{key: key, token: token}
			if ticks >= 0 {
				s.until = c.w.Clock.After(uint64(ticks))
			}
			s.x = parks.NewPark(thread, key, token, s.until, hooksOf(key))
			c.stays[thread] = s
		}
		if !s.x.Step(c.w) {
			return false
		}
		c.end(t, thread, s)
		return true
	})
}

// end of a stay: is it as it should be?
func (c *crowd) end(t *testing.T, thread int, s *stay) {
	t.Helper()
	o, token := s.x.Got(c.w)
	c.ended[o]++
	c.stays[thread] = nil
	switch {
	case s.queued && !s.unparked || token != s.told || s.taken != s.unparked:
		t.Fatalf("thread %d is over: %+v, its token %d", thread, s, token)
	case o == parks.PaUnparked && s.unparked:
	case o == parks.PaLate && s.late && s.until.On && s.until.At <= c.w.Clock.Now() && !s.taken:
	case o == parks.PaInvalid && s.key == mutex && !s.late && !s.taken:
	default:
		t.Fatalf("thread %d is over, by %d: %+v at tick %d", thread, o, s, c.w.Clock.Now())
	}
}

// some of a key, that a filter chooses, are unparked by a thread, with a token; 0 away from the mutex: with no answer.
func (c *crowd) some(thread int, key api.Addr, filter func() lines.Filter, token uint64) {
	c.pick(thread, func() *pick {
		k := &pick{filter: filter, kind: notes.NtPick, key: key, token: token}
		x := filters.NewSome(thread, key, filter(), c.answer(k))
		k.x, k.got = x, x.Got
		return k
	})
}

// one of a key is unparked by a thread, with a token.
func (c *crowd) one(thread int, key api.Addr, token uint64) {
	c.pick(thread, func() *pick {
		k := &pick{filter: firsts, kind: notes.NtTake, key: key, token: token}
		x := ones.NewOne(thread, key, c.answer(k))
		k.x, k.got = x, func() (r ones.Result, threads []int) {
			if r = x.Got(); r.Many > 0 {
				threads = some(r.Thread)
			}
			return r, threads
		}
		return k
	})
}

// answer of a pick: none, where there is nothing to say.
func (c *crowd) answer(k *pick) ones.Answer {
	if k.key == mutex || k.token > 0 {
		return answering{k}
	}
	return nil
}

// Filters of crowds.

func choosers() lines.Filter { return chooses{} }

func everys() lines.Filter { return every{} }

func firsts() lines.Filter { return &first{} }

func noFilter() lines.Filter { return nil }

// pick: a thread takes some, by what is made as it begins.
func (c *crowd) pick(thread int, made func() *pick) {
	c.add(thread, func(t *testing.T) bool {
		k := c.picks[thread]
		if k == nil {
			k = made()
			c.picks[thread] = k
		}
		accesses, calls, was := c.w.Cells.Count(), c.w.Permits.Count(), c.times(k)
		over := k.x.Step(c.w)
		if got := c.w.Cells.Last(); c.w.Cells.Count() > accesses && got.Kind == api.AcLoad && got.Addr == 0 {
			k.want = c.wants(k)
		}
		c.fires(t, k, c.tells(t, thread, k), was)
		// Parkers of words are unparked by a Free.
		if call := c.w.Permits.Last(); c.w.Permits.Count() > calls && call.Kind == permits.CaUnpark && call.Parker%2 == 0 {
			c.wakes(t, k, call.Parker/2)
		}
		if over {
			c.left(t, thread, k)
		}
		return over
	})
}

// wants: whom a pick is to take, of those who are parked: as its filter chooses, one behind the other.
func (c *crowd) wants(k *pick) taken {
	out := taken{result: empty()}
	filter := k.filter()
	stopped := filter == nil
	for _, thread := range c.parked[k.key] {
		choice := lines.ChStop
		if !stopped {
			choice = filter.Choose(c.stays[thread].token)
			stopped = choice != lines.ChTake && choice != lines.ChSkip
		}
		if choice == lines.ChTake {
			out.threads = append(out.threads, thread)
		}
	}
	if out.result.Many = len(out.threads); out.result.Many > 0 {
		out.result.Thread = out.threads[0]
	}
	out.result.More = out.result.Many < len(c.parked[k.key])
	return out
}

// times: the timer of the bucket of a key, and how many draws are left.
type times struct {
	timer fairs.Timer
	left  int
}

func (c *crowd) times(k *pick) times {
	return times{c.w.Tables.Timer(placeOf(k.key, c.w.Cells.Peek(0))), c.w.Clock.Left()}
}

// tells by a step, or not, whom it took: those whom it is to take are in the queue no more. Was somebody taken by it?
func (c *crowd) tells(t *testing.T, thread int, k *pick) bool {
	t.Helper()
	r, threads := k.got()
	if len(k.asked) > 1 || len(k.asked) == 1 && k.asked[0] != r || k.told && (r != k.is.result || !slices.Equal(threads, k.is.threads)) {
		t.Fatalf("thread %d got %+v, %v, and its answer was told %+v", thread, r, threads, k.asked)
	}
	if k.told || len(k.asked) == 0 && r == empty() && len(threads) == 0 {
		return false
	}
	k.told, k.is = true, taken{r, slices.Clone(threads)}
	clear(threads)
	want := k.want
	want.result.Fair = r.Fair
	if r != want.result || !slices.Equal(k.is.threads, want.threads) {
		t.Fatalf("thread %d got %+v, want %+v, where %v are parked", thread, k.is, want, c.parked[k.key])
	}
	for _, who := range k.is.threads {
		c.stays[who].taken, c.stays[who].queued = true, false
		c.noted = append(c.noted, notes.Note{Step: c.w.Steps(), Thread: thread, Kind: k.kind, Addr: k.key, Other: who})
	}
	c.many += len(k.is.threads)
	c.parked[k.key] = slices.DeleteFunc(slices.Clone(c.parked[k.key]), func(who int) bool { return slices.Contains(k.is.threads, who) })
	return len(k.is.threads) > 0
}

// fires the bucket's timer by a step, or not: just as some are taken, and if it is due.
func (c *crowd) fires(t *testing.T, k *pick, took bool, was times) {
	t.Helper()
	now, is := c.w.Clock.Now(), c.times(k)
	if !took || now <= was.timer.At {
		if is != was || took && k.is.result.Fair {
			t.Fatalf("the timer %+v fired: %+v", was, is)
		}
		return
	}
	if timer := is.timer; !k.is.result.Fair || timer.Fired != now || timer.At < now || timer.At > now+5 || is.left != max(was.left-1, 0) {
		t.Fatalf("the timer %+v is %+v at tick %d; got %+v", was, is, now, k.is.result)
	}
}

// wakes a thread: that is the oldest one of those that it took, and did not unpark yet.
func (c *crowd) wakes(t *testing.T, k *pick, thread int) {
	t.Helper()
	s := c.stays[thread]
	if k.woken >= len(k.is.threads) || k.is.threads[k.woken] != thread || s == nil || s.unparked || c.w.Tokens[thread] != k.token {
		t.Fatalf("thread %d is unparked: %+v by %+v", thread, s, k)
	}
	s.unparked, s.told = true, k.token
	k.woken++
}

// left has a thread that took: all whom it took are unparked; where nothing was told, nobody was there.
func (c *crowd) left(t *testing.T, thread int, k *pick) {
	t.Helper()
	if k.woken != len(k.is.threads) || !k.told && k.want.result != empty() {
		t.Fatalf("thread %d is over, and %+v", thread, k)
	}
	if k.kind == notes.NtPick {
		r, _ := k.got()
		r.Thread = 0
		c.found[r]++
	}
	c.picks[thread] = nil
}

// join of a thread: the table may be replaced.
func (c *crowd) join(thread int) {
	x := grows.NewJoin(thread)
	c.add(thread, func(*testing.T) bool { return x.Step(c.w) })
}

// clock: whose turn is a tick.
const clock = 64

// step of a thread of a crowd, or a tick.
func (c *crowd) step(t *testing.T, thread int) {
	t.Helper()
	if thread == clock {
		c.w.Clock.Tick(1)
		c.ticks--
		return
	}
	steps, calls, want := c.w.Steps(), c.w.Permits.Count(), 0
	s := c.stays[thread]
	if left := c.stages[thread]; len(left) > 0 {
		want = 1
		if left[0](t) {
			c.stages[thread] = left[1:]
		}
	}
	if got := c.w.Steps() - steps; got != want {
		t.Fatalf("thread %d: %d steps at once", thread, got)
	}
	if s != nil && c.w.Permits.Count() > calls {
		c.sees(thread, s, c.w.Permits.Last())
	}
	c.check(t)
}

// sees which line of a stay a call was.
func (c *crowd) sees(thread int, s *stay, call permits.Call) {
	switch {
	case call == permits.Call{Kind: permits.CaPrepare, Parker: 2 * thread}:
		s.queued = true
		c.parked[s.key] = append(slices.Clip(c.parked[s.key]), thread)
		c.note(thread, notes.NtPark, s.key)
	case call == permits.Call{Kind: permits.CaLate, Parker: 2 * thread} && !s.unparked:
		s.late, s.queued = true, false
		if i := slices.Index(c.parked[s.key], thread); i >= 0 {
			c.parked[s.key] = slices.Delete(slices.Clone(c.parked[s.key]), i, i+1)
			c.note(thread, notes.NtGone, s.key)
		}
	}
}

// note that is to be there.
func (c *crowd) note(thread int, k notes.Kind, key api.Addr) {
	c.noted = append(c.noted, notes.Note{Step: c.w.Steps(), Thread: thread, Kind: k, Addr: key, Other: -1})
}

// check that all who are parked are where their keys hash to, once, those of one key in their order, and nobody else is; and that notes say so.
func (c *crowd) check(t *testing.T) {
	t.Helper()
	if got := c.w.Notes.Count(); got != len(c.noted) || got > 0 && c.w.Notes.Since(got - 1)[0] != c.noted[got-1] {
		t.Fatalf("%d notes, want %d: %+v, want %+v", got, len(c.noted), c.w.Notes.All(), c.noted)
	}
	is, word := map[api.Addr][]int{}, c.w.Cells.Peek(0)
	for bits := 2; bits <= 8; bits++ {
		if !c.w.Tables.Has(bits) {
			continue
		}
		for n := range 1 << bits {
			for _, e := range c.w.Tables.Queue(bucket(bits, n)) {
				if s := c.stays[e.Thread]; bucket(bits, n) != placeOf(e.Key, word) || s == nil || e.Token != s.token || e.Key != s.key {
					t.Fatalf("%+v is in bucket %d by %d bits", e, n, bits)
				}
				is[e.Key] = append(is[e.Key], e.Thread)
			}
		}
	}
	for _, key := range keys() {
		if !slices.Equal(is[key], c.parked[key]) {
			t.Fatalf("key %d: %v, want %v", key, is[key], c.parked[key])
		}
		delete(is, key)
	}
	if len(is) != 0 {
		t.Fatalf("of other keys: %v", is)
	}
	// As long as nobody has the lock of its bucket, the mutex' byte says whether somebody is queued.
	if byte, free := c.w.Cells.Peek(mutex), c.w.Cells.Peek(lockOf(placeOf(mutex, word)))%2 == 0; free && len(c.parked[mutex]) > 0 && byte != 3 {
		t.Fatalf("%v are parked at the mutex, and its byte is %d", c.parked[mutex], byte)
	}
}

// goes: may a thread go on, and is there something to do?
func (c *crowd) goes(thread int) bool {
	if thread == clock {
		return c.ticks > 0
	}
	now := c.w.Clock.Now()
	return len(c.stages[thread]) > 0 && c.w.Permits.Goes(2*thread, now) && c.w.Permits.Goes(2*thread+1, now)
}

// may go on: who does; the clock, if there are ticks.
func (c *crowd) may() []int {
	var out []int
	for thread := range clock + 1 {
		if c.goes(thread) {
			out = append(out, thread)
		}
	}
	return out
}

// through: all go on, by a rule, till nobody does.
func (c *crowd) through(t *testing.T, next func(may []int) int) {
	t.Helper()
	for range 400000 {
		may := c.may()
		if len(may) == 0 {
			c.checkEnd(t)
			return
		}
		c.step(t, next(may))
	}
	t.Fatal("they go on for ever")
}

// checkEnd: that who is not through is asleep, in just one queue, and its deadline did not come; as many were unparked as were taken; all locks are 0.
func (c *crowd) checkEnd(t *testing.T) {
	t.Helper()
	for thread, left := range c.stages {
		s := c.stays[thread]
		if (s != nil) != (len(left) > 0) || c.picks[thread] != nil || c.w.Permits.Asleep(2*thread+1) || c.w.Permits.Asleep(2*thread) != (s != nil) {
			t.Fatalf("thread %d has %d stages left, and is asleep: %v", thread, len(left), c.w.Permits.Asleep(2*thread))
		}
		places := c.w.Tables.Places(thread)
		if s == nil && len(places) != 0 || s != nil && (len(places) != 1 || !s.queued || s.taken || s.until.On && s.until.At <= c.w.Clock.Now()) {
			t.Fatalf("thread %d is at %v: %+v", thread, places, s)
		}
	}
	for _, word := range c.w.Cells.Words() {
		if word.Addr >= 256 && word.Addr < 1024 {
			t.Fatalf("at %d stands %d", word.Addr, word.Value)
		}
	}
	if c.ended[parks.PaUnparked] != c.many || !slices.Equal(c.w.Notes.All(), c.noted) {
		t.Fatalf("%d are taken, %d unparked; notes %+v, want %+v", c.many, c.ended[parks.PaUnparked], c.w.Notes.All(), c.noted)
	}
}

// eachOrder of a crowd's steps, in which who may go on stands back for another one so many times at most: made anew for each.
func eachOrder(t *testing.T, backs int, made func() *crowd) int {
	t.Helper()
	orders := 0
	var from func(steps []int, backs int)
	from = func(steps []int, backs int) {
		c := made()
		for _, thread := range steps {
			c.step(t, thread)
		}
		// As long as it is told who is next, the same crowd goes on.
		for may := c.may(); ; may = c.may() {
			if len(may) == 0 {
				orders++
				c.checkEnd(t)
				return
			}
			on := -1
			if len(steps) > 0 && c.goes(steps[len(steps)-1]) {
				on = steps[len(steps)-1]
			}
			for _, thread := range may {
				if on != -1 && on != thread && backs > 0 {
					from(append(slices.Clip(steps), thread), backs-1)
				}
				if on == -1 && thread != may[0] {
					from(append(slices.Clip(steps), thread), backs)
				}
			}
			if on == -1 {
				on = may[0]
			}
			if steps = append(slices.Clip(steps), on); len(steps) > 1000 {
				t.Fatal("they go on for ever")
			}
			c.step(t, on)
		}
	}
	from(nil, backs)
	return orders
}

// crowdWorld: with so many threads that joined, and a mutex that may be parked at.
func crowdWorld(t *testing.T, spin, joined int) *worlds.World {
	t.Helper()
	return world(t, spin, cells.Word{Addr: 1, Value: uint64(joined)}, cells.Word{Addr: mutex, Value: 3})
}

// P21.2: few threads, and ticks, in each order with few that stand back.
func TestEachOrder(t *testing.T) {
	for name, o := range map[string]struct {
		spin, backs, ticks int
		orders             int // at the least
		made               func(c *crowd)
	}{
		"one, and a Some": {0, 4, 0, 300, func(c *crowd) {
			c.park(1, one, yes, -1)
			c.some(2, one, choosers, 9)
		}},
		"one that is skipped, and a Some": {0, 4, 0, 300, func(c *crowd) {
			c.park(1, one, no, -1)
			c.some(2, one, choosers, 9)
		}},
		"one, and a Some, with spins, and a tick": {1, 3, 1, 300, func(c *crowd) {
			c.park(1, one, yes, -1)
			c.some(2, one, choosers, 0)
		}},
		"one that may be late, and a Some": {0, 3, 1, 300, func(c *crowd) {
			c.park(1, one, yes, 1)
			c.some(2, one, choosers, 9)
		}},
		"two, and a Some": {0, 2, 0, 300, func(c *crowd) {
			c.park(1, one, yes, -1)
			c.park(2, one, yes, -1)
			c.some(3, one, choosers, 9)
		}},
		"two, one of which is skipped, and a Some": {0, 2, 0, 300, func(c *crowd) {
			c.park(1, one, no, -1)
			c.park(2, one, yes, -1)
			c.some(3, one, choosers, 9)
		}},
		"two, one of which stops it, and a Some": {0, 2, 0, 300, func(c *crowd) {
			c.park(1, one, stop, -1)
			c.park(2, one, yes, -1)
			c.some(3, one, choosers, 9)
		}},
		"two, one of which may be late, and a Some": {0, 1, 1, 200, func(c *crowd) {
			c.park(1, one, no, -1)
			c.park(2, one, yes, 1)
			c.some(3, one, choosers, 9)
		}},
		"two, and two Somes, that choose others": {0, 1, 0, 200, func(c *crowd) {
			c.park(1, one, yes, -1)
			c.park(2, one, no, -1)
			c.some(3, one, choosers, 9)
			c.some(4, one, func() lines.Filter { return byTokens{no, yes} }, 8)
		}},
		"two, a Some and a One": {0, 1, 0, 200, func(c *crowd) {
			c.park(1, one, yes, -1)
			c.park(2, one, no, 0)
			c.some(3, one, choosers, 9)
			c.one(4, one, 8)
		}},
		"two of one bucket, and two Somes": {0, 1, 0, 200, func(c *crowd) {
			c.park(1, one, yes, -1)
			c.park(2, neighbour, no, 0)
			c.some(3, neighbour, everys, 9)
			c.some(4, one, choosers, 8)
		}},
		"two at the mutex, and two Somes": {0, 1, 0, 200, func(c *crowd) {
			c.park(1, mutex, no, -1)
			c.park(2, mutex, yes, 0)
			c.some(3, mutex, choosers, 9)
			c.some(4, mutex, everys, 0)
		}},
		"one that parks again, and two Somes": {0, 3, 0, 200, func(c *crowd) {
			c.park(1, one, yes, -1)
			c.park(1, one, no, 0)
			c.some(2, one, choosers, 9)
			c.some(2, one, everys, 8)
		}},
		"two that unpark each other": {0, 2, 1, 300, func(c *crowd) {
			c.park(1, one, yes, 1)
			c.some(1, other, choosers, 9)
			c.some(2, one, choosers, 8)
			c.park(2, other, yes, 1)
		}},
		"two, a Some, and another one joins": {0, 1, 0, 200, func(c *crowd) {
			c.park(1, one, no, -1)
			c.park(2, one, yes, -1)
			c.some(3, one, choosers, 9)
			c.join(4)
		}},
	} {
		t.Run(name, func(t *testing.T) {
			orders := eachOrder(t, o.backs, func() *crowd {
				c := newCrowd(crowdWorld(t, o.spin, 1), o.ticks)
				o.made(c)
				return c
			})
			if orders < o.orders {
				t.Errorf("%d orders", orders)
			}
		})
	}
}

// keys of crowds: several in each bucket of small tables.
func keys() []api.Addr {
	return []api.Addr{one, mutex, neighbour, other, 0, 1, 1056, 1057, 1160, 1164, 1 << 31, math.MaxUint32}
}

// drawn crowd: its threads, and what they do, by a draw.
func drawn(t *testing.T, d *draw, run, most, each int) *crowd {
	t.Helper()
	threads, many := 1+d.below(most), 1+d.below(len(keys()))
	c := newCrowd(crowdWorld(t, d.below(4), d.below(30)), d.below(3*threads))
	var more []uint64
	for range d.below(40) {
		more = append(more, uint64(d.below(50)))
	}
	c.w.Clock.More(more)
	for i := range threads {
		thread := (i*37 + run) % 64
		for range 1 + d.below(each) {
			c.does(thread, keys()[d.below(many)], d)
		}
	}
	return c
}

// does: a stage of a thread, by a draw.
func (c *crowd) does(thread int, key api.Addr, d *draw) {
	told := uint64(d.below(1000))
	switch kind := d.below(24); {
	case kind < 14:
		token := []uint64{yes, yes, yes, no, no, stop, odd}[d.below(7)]
		c.park(thread, key, token+4*uint64(d.below(3)), d.below(9)-1-d.below(4))
	case kind < 18:
		c.some(thread, key, choosers, told)
	case kind < 19:
		take := uint64(4 + d.below(4))
		c.some(thread, key, func() lines.Filter { return byTokens{take, stop} }, told)
	case kind < 20:
		c.some(thread, key, everys, told)
	case kind < 21:
		c.some(thread, key, firsts, told)
	case kind < 22:
		c.some(thread, key, noFilter, told)
	case kind < 23:
		c.one(thread, key, told)
	default:
		c.join(thread)
	}
}

// count what crowds ended by, and what Somes found: each sort of it often.
type count struct {
	ended map[parks.Outcome]int
	found map[ones.Result]int
}

func newCount() count {
	return count{map[parks.Outcome]int{}, map[ones.Result]int{}}
}

// add a crowd.
func (n count) add(c *crowd) {
	for o, times := range c.ended {
		n.ended[o] += times
	}
	for got, times := range c.found {
		n.found[got] += times
	}
}

// check that each sort is there so often.
func (n count) check(t *testing.T, often int) {
	t.Helper()
	for _, o := range []parks.Outcome{parks.PaInvalid, parks.PaUnparked, parks.PaLate} {
		if n.ended[o] < often {
			t.Errorf("%d ended by %d", n.ended[o], o)
		}
	}
	great := 0
	for got, times := range n.found {
		if got.Many >= 3 {
			great += times
		}
	}
	if great < often {
		t.Errorf("%d found three, or more", great)
	}
	for many := range 3 {
		for _, more := range []bool{false, true} {
			for _, fair := range []bool{false, true} {
				got := ones.Result{Many: many, More: more, Fair: fair}
				if many == 0 && fair {
					continue
				}
				if n.found[got] < often {
					t.Errorf("%d found %+v", n.found[got], got)
				}
			}
		}
	}
}

// P21.2: many threads that park, and unpark, in many orders of their steps and the clock's ticks; those that are over, or asleep, are asked, too.
func TestManyOrders(t *testing.T) {
	all := newCount()
	for run := range 600 {
		d := draw(run)
		most := 64
		if run%4 > 0 {
			most = 6
		}
		c := drawn(t, &d, run, most, 5)
		for range d.below(400) {
			c.step(t, d.below(64))
		}
		c.through(t, func(may []int) int { return may[d.below(len(may))] })
		all.add(c)
	}
	all.check(t, 10)
}

// P21.2: many orders in which a thread takes several steps ahead of others.
func TestRuns(t *testing.T) {
	all := newCount()
	for run := range 2000 {
		d := draw(run)
		c := drawn(t, &d, run, 10, 6)
		on := -1
		c.through(t, func(may []int) int {
			if !slices.Contains(may, on) || d.below(8) == 0 {
				on = may[d.below(len(may))]
			}
			return on
		})
		all.add(c)
	}
	all.check(t, 10)
}

// P21.2: in rounds, a step each; one always ahead of all others, or behind them (so all ticks come last, or first).
func TestInRounds(t *testing.T) {
	for run := range 150 {
		d := draw(run)
		round := drawn(t, &d, run, 20, 4)
		on := -1
		round.through(t, func(may []int) int {
			on++
			return may[on%len(may)]
		})
		drawn(t, &d, run, 20, 4).through(t, func(may []int) int { return may[0] })
		drawn(t, &d, run, 20, 4).through(t, func(may []int) int { return may[len(may)-1] })
	}
}

// P21.2: all threads but one park at a key; that one unparks those of one token, then those of another one, up to one that stops it, and so on; who is left stays in order.
func TestAllAtOneKey(t *testing.T) {
	for run := range 6 {
		d := draw(run)
		next := func(may []int) int { return may[d.below(len(may))] }
		c := newCrowd(crowdWorld(t, run%3, 0), 0)
		for thread := range 63 {
			c.park(thread, one, uint64(thread%3), -1)
		}
		c.through(t, next)
		queue := slices.Clone(c.parked[one])
		if len(queue) != 63 {
			t.Fatalf("%v are parked", queue)
		}
		ended := 0
		for _, f := range []struct{ take, stop uint64 }{{1, 99}, {1, 99}, {0, 2}, {2, 0}, {2, 99}, {0, 99}} {
			var left []int
			stopped := false
			for _, thread := range queue {
				token := uint64(thread % 3)
				stopped = stopped || token == f.stop
				if token != f.take || stopped {
					left = append(left, thread)
				}
			}
			ended += len(queue) - len(left)
			queue = left
			c.some(63, one, func() lines.Filter { return byTokens(f) }, 100)
			c.through(t, next)
			if !slices.Equal(c.parked[one], queue) || c.ended[parks.PaUnparked] != ended {
				t.Errorf("%v are parked, want %v; %v ended", c.parked[one], queue, c.ended)
			}
		}
		if ended != 63 || len(queue) != 0 {
			t.Errorf("%d ended, %v are left", ended, queue)
		}
	}
}
