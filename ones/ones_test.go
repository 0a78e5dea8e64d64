package ones_test

import (
	"math"
	"slices"
	"testing"

	"layby/api"
	"layby/cells"
	"layby/fairs"
	"layby/lines"
	"layby/notes"
	"layby/ones"
	"layby/parks"
	"layby/permits"
	"layby/tables"
	"layby/worlds"
)

// me: who unparks mostly, and its parker of words.
const (
	me     = 5
	myWord = 2*me + 1
)

// Keys: one and its neighbour are in bucket 3 of the table of 2 bits, the other one is in bucket 1.
const (
	one       api.Addr = 1152
	neighbour api.Addr = 1168
	other     api.Addr = 1156
)

// Locks of these two buckets.
const (
	lock3 api.Addr = 263
	lock1 api.Addr = 261
)

// mine: the token of who unparks.
const mine = ones.Token(9)

// bitsOf a word, by plain numbers.
func bitsOf(word uint64) int {
	for bits := 2; bits <= 8; bits++ {
		if word == uint64(bits) {
			return bits
		}
	}
	return 2
}

// placeOf a key by a word, by plain numbers.
func placeOf(key api.Addr, word uint64) tables.Place {
	bits := bitsOf(word)
	return tables.Place{Bits: bits, Bucket: int(uint64(key) * 11400714819323198485 / (1 << (64 - bits)))}
}

// lockOf a place, by plain numbers.
func lockOf(p tables.Place) api.Addr {
	return api.Addr(256 + 1<<p.Bits + p.Bucket)
}

// bucket of a table.
func bucket(bits, n int) tables.Place {
	return tables.Place{Bits: bits, Bucket: n}
}

// The keys stand as it is said of them.
func TestKeysAreApart(t *testing.T) {
	for key, want := range map[api.Addr]tables.Place{one: bucket(2, 3), neighbour: bucket(2, 3), other: bucket(2, 1)} {
		if got := placeOf(key, 2); got != want {
			t.Errorf("key %d: %+v", key, got)
		}
	}
	if lockOf(placeOf(one, 2)) != lock3 || lockOf(placeOf(other, 2)) != lock1 || placeOf(one, 4) == placeOf(neighbour, 4) {
		t.Error("locks, or a greater table")
	}
}

// draws of worlds, brought to 5 at most: 3, 1, 4, 5.
func draws() []uint64 { return []uint64{3, 7, 4, 11} }

// world of a Spin, in which some words stand at first; no step was made.
func world(t *testing.T, spin int, l ...cells.Word) *worlds.World {
	t.Helper()
	w, e := worlds.New(worlds.Config{Spin: spin, Most: 5, Draws: draws()})
	if w == nil || e != 0 {
		t.Fatalf("no world of Spin %d: %d", spin, e)
	}
	w.Cells = cells.New(append([]cells.Word{{Addr: 0, Value: 2}}, l...)...)
	return w
}

// entry of a thread.
func entry(thread int, key api.Addr, token uint64) lines.Entry {
	return lines.Entry{Thread: thread, Key: key, Token: token}
}

// queuesUp entries, each where its key hashes to.
func queuesUp(l ...lines.Entry) do {
	return func(w *worlds.World) {
		for _, e := range l {
			p := placeOf(e.Key, w.Cells.Peek(0))
			w.Tables.Put(p, append(w.Tables.Queue(p), e))
		}
	}
}

// having: a world where some are queued, as if they had parked.
func having(t *testing.T, l ...lines.Entry) *worlds.World {
	t.Helper()
	w := world(t, 0)
	queuesUp(l...)(w)
	return w
}

// looks: what of a world a One may change, beside cells and parkers.
type looks struct {
	queues map[tables.Place][]lines.Entry // those that are not empty
	timers map[tables.Place]fairs.Timer
	notes  []notes.Note
	tokens [64]uint64
	left   int // draws
	tick   uint64
	spin   int
}

// looksOf a world.
func looksOf(w *worlds.World) looks {
	l := looks{
		queues: map[tables.Place][]lines.Entry{}, timers: map[tables.Place]fairs.Timer{},
		notes: w.Notes.All(), tokens: w.Tokens, left: w.Clock.Left(), tick: w.Clock.Now(), spin: w.Spin,
	}
	for bits := 2; bits <= 4; bits++ {
		for n := range 1 << bits {
			p := bucket(bits, n)
			if queue := w.Tables.Queue(p); len(queue) > 0 {
				l.queues[p] = queue
			}
			if w.Tables.Has(bits) {
				l.timers[p] = w.Tables.Timer(p)
			}
		}
	}
	return l
}

// same looks?
func (l looks) same(as looks) bool {
	if len(l.queues) != len(as.queues) || len(l.timers) != len(as.timers) {
		return false
	}
	for p, queue := range l.queues {
		if !slices.Equal(queue, as.queues[p]) {
			return false
		}
	}
	for p, timer := range l.timers {
		if timer != as.timers[p] {
			return false
		}
	}
	return slices.Equal(l.notes, as.notes) && l.tokens == as.tokens && l.left == as.left && l.tick == as.tick && l.spin == as.spin
}

// saw: what a step is to have done, by plain numbers.
type saw struct {
	access api.Access   // of a step that is an access
	call   permits.Call // of a step that is a call
	over   bool         // behind it it is over

	told   *ones.Result // what Got tells from it on
	where  tables.Place // the place of who is taken by it
	left   []lines.Entry
	noted  notes.Note // but its step
	timer  *fairs.Timer
	tokens map[int]uint64 // that it sets
}

// Accesses and calls.

func loaded(a api.Addr, found uint64) saw {
	return saw{access: api.Access{Kind: api.AcLoad, Addr: a, Was: found, Is: found}}
}

func cas(a api.Addr, was, is uint64) saw {
	return saw{access: api.Access{Kind: api.AcCAS, Addr: a, Was: was, Is: is}}
}

func add(a api.Addr, was, is uint64) saw {
	return saw{access: api.Access{Kind: api.AcAdd, Addr: a, Was: was, Is: is}}
}

func and(a api.Addr, was, is uint64) saw {
	return saw{access: api.Access{Kind: api.AcAnd, Addr: a, Was: was, Is: is}}
}

func called(k permits.CallKind, parker int) saw {
	return saw{call: permits.Call{Kind: k, Parker: parker}}
}

func nothing() saw { return saw{} }

// Rows of steps.

// row of steps, one behind the other.
func row(parts ...[]saw) []saw { return slices.Concat(parts...) }

// these steps.
func these(s ...saw) []saw { return s }

// ended: behind the last one of these steps it is over.
func ended(steps []saw) []saw {
	out := slices.Clone(steps)
	out[len(out)-1].over = true
	return out
}

// entered a bucket by the table's word (line 1).
func entered(a api.Addr, word uint64) []saw {
	return these(loaded(0, word), cas(a, 0, 1), loaded(0, word))
}

// freed a lock for which nobody waits (line 4).
func freed(a api.Addr) []saw { return these(add(a, 1, 0)) }

// none: with the last one of these steps it is told that nobody is there.
func none(steps []saw) []saw {
	out := slices.Clone(steps)
	out[len(out)-1].told = &ones.Result{Thread: -1}
	return out
}

// took: with the last one of these steps a thread is taken out of a place's queue, at a key; who is left there.
func took(steps []saw, p tables.Place, key api.Addr, who int, more bool, left ...lines.Entry) []saw {
	out := slices.Clone(steps)
	s := &out[len(out)-1]
	s.told = &ones.Result{Many: 1, More: more, Thread: who}
	s.where, s.left = p, left
	s.noted = notes.Note{Thread: me, Kind: notes.NtTake, Addr: key, Other: who}
	return out
}

// fired: with the last one of these steps the timer of its place fires, too, and is another one then.
func fired(steps []saw, at, fired uint64) []saw {
	out := slices.Clone(steps)
	s := &out[len(out)-1]
	told := *s.told
	told.Fair = true
	s.told, s.timer = &told, &fairs.Timer{At: at, Fired: fired}
	return out
}

// unparked a thread, with a token (line 3).
func unparked(who int, token uint64) []saw {
	s := called(permits.CaUnpark, 2*who)
	s.tokens = map[int]uint64{who: token}
	return these(s)
}

// takes thread 3, that is alone at one, in a world as at first (line 1).
func takes() []saw {
	return took(entered(lock3, 2), bucket(2, 3), one, 3, false)
}

// whole: a One that takes thread 3, that is alone at one, with a token.
func whole(token uint64) []saw {
	return row(takes(), unparked(3, token), ended(freed(lock3)))
}

// nobody: a One that finds nobody at one.
func nobody() []saw {
	return row(none(entered(lock3, 2)), ended(freed(lock3)))
}

// change of what a world looks like that a step is to make.
func (s saw) change(l *looks, steps int) {
	if s.noted.Kind != notes.NtNone {
		if l.queues[s.where] = s.left; len(s.left) == 0 {
			delete(l.queues, s.where)
		}
		note := s.noted
		note.Step = steps
		l.notes = append(l.notes, note)
	}
	if s.timer != nil {
		l.timers[s.where] = *s.timer
		l.left = max(l.left-1, 0)
	}
	for thread, token := range s.tokens {
		l.tokens[thread] = token
	}
}

// checkSaw: that the next step of a One does just that.
func checkSaw(t *testing.T, i int, x *ones.One, w *worlds.World, want saw) {
	t.Helper()
	accesses, calls, all := w.Cells.Count(), w.Permits.Count(), looksOf(w)
	if over := x.Step(w); over != want.over || x.Over() != want.over {
		t.Errorf("step %d: %v, Over = %v", i, over, x.Over())
	}
	if want.access != (api.Access{}) {
		accesses++
		if got := w.Cells.Last(); got != want.access {
			t.Errorf("step %d: the access %+v, want %+v", i, got, want.access)
		}
	}
	if want.call != (permits.Call{}) {
		calls++
		if got := w.Permits.Last(); got != want.call {
			t.Errorf("step %d: the call %+v, want %+v", i, got, want.call)
		}
	}
	if w.Cells.Count() != accesses || w.Permits.Count() != calls {
		t.Errorf("step %d: %d accesses, %d calls; want %d, %d", i, w.Cells.Count(), w.Permits.Count(), accesses, calls)
	}
	want.change(&all, accesses+calls)
	if got := looksOf(w); !got.same(all) {
		t.Errorf("step %d: %+v, want %+v", i, got, all)
	}
}

// do: something of somebody else, ahead of a step.
type do func(w *worlds.World)

// stores at an address.
func stores(a api.Addr, v uint64) do {
	return func(w *worlds.World) { w.Cells.Store(a, v) }
}

// both, one behind the other.
func both(first, second do) do {
	return func(w *worlds.World) {
		first(w)
		second(w)
	}
}

// unparks a parker.
func unparks(parker int) do {
	return func(w *worlds.World) { w.Permits.Unpark(parker) }
}

// ticks of the clock.
func ticks(n uint64) do {
	return func(w *worlds.World) { w.Clock.Tick(n) }
}

// empties a bucket's queue.
func empties(p tables.Place) do {
	return func(w *worlds.World) { w.Tables.Put(p, nil) }
}

// sets a place's timer.
func sets(p tables.Place, at, fired uint64) do {
	return func(w *worlds.World) { w.Tables.PutTimer(p, fairs.Timer{At: at, Fired: fired}) }
}

// replaces the table that counts by a greater one.
func replaces(to int) do {
	return func(w *worlds.World) {
		w.Tables.Grow(bitsOf(w.Cells.Peek(0)), to, w.Clock.Now())
		w.Cells.Store(0, uint64(to))
	}
}

// waitsFor a lock, that somebody has: a thread, alone.
func waitsFor(thread int, a api.Addr) do {
	return func(w *worlds.World) {
		w.Links.Push(thread, -1)
		w.Cells.Store(a, 4*uint64(thread+1)+1)
	}
}

// run a row of steps, where somebody else does something ahead of some of them: what it got in the end.
func run(t *testing.T, w *worlds.World, x *ones.One, way []saw, ahead map[int]do) ones.Result {
	t.Helper()
	if x.Over() {
		t.Error("over ahead of its first step")
	}
	told := ones.Result{Thread: -1}
	for i, s := range way {
		if act := ahead[i+1]; act != nil {
			act(w)
		}
		if x.Step(nil) || x.Over() {
			t.Error("a step in no world")
		}
		if got := x.Got(); got != told {
			t.Errorf("ahead of step %d: got %+v, want %+v", i+1, got, told)
		}
		checkSaw(t, i+1, x, w, s)
		if s.told != nil {
			told = *s.told
		}
	}
	if got := x.Got(); got != told {
		t.Errorf("behind its steps: got %+v, want %+v", got, told)
	}
	return told
}

// checkOver: that it is, and does nothing, whatever changes.
func checkOver(t *testing.T, w *worlds.World, x *ones.One, told ones.Result) {
	t.Helper()
	for i := range 3 {
		w.Cells.Store(0, uint64(i+1))
		queuesUp(entry(40+i, one, 1), entry(50+i, other, 1))(w)
		checkSaw(t, i, x, w, saw{over: true})
		if !x.Step(nil) || !x.Step(&worlds.World{}) || !x.Over() {
			t.Error("not over in no world, or in another one")
		}
		if got := x.Got(); got != told {
			t.Errorf("over, it got %+v, want %+v", got, told)
		}
	}
}

// check that a One does just that; if the last step says so, it is over.
func check(t *testing.T, w *worlds.World, x *ones.One, way []saw, ahead map[int]do) {
	t.Helper()
	told := run(t, w, x, way, ahead)
	if way[len(way)-1].over {
		checkOver(t, w, x, told)
	}
}

// through a One: how many steps that takes.
func through(t *testing.T, w *worlds.World, x *ones.One) int {
	t.Helper()
	for n := range 1000 {
		if x.Step(w) {
			return n + 1
		}
	}
	t.Fatal("it goes on for ever")
	return 0
}

// plain One at one.
func plain() *ones.One { return ones.NewOne(me, one, mine) }

// The chapter's examples.
func TestExamples(t *testing.T) {
	w, e := worlds.New(worlds.Config{})
	if e != 0 {
		t.Fatal(e)
	}
	sleeper := parks.NewPark(3, 1152, 7, api.Until{}, parks.Plain{})
	for range 9 {
		if sleeper.Step(w) {
			t.Fatal("it does not sleep")
		}
	}
	steps := w.Steps()
	x := ones.NewOne(4, 1152, ones.Token(9))
	for i, want := range []api.Access{
		{Kind: api.AcLoad, Addr: 0, Was: 2, Is: 2}, {Kind: api.AcCAS, Addr: 263, Was: 0, Is: 1}, {Kind: api.AcLoad, Addr: 0, Was: 2, Is: 2},
		{Kind: api.AcLoad, Addr: 0, Was: 2, Is: 2}, {Kind: api.AcAdd, Addr: 263, Was: 1, Is: 0},
	} {
		if over := x.Step(w); over != (i == 4) || w.Cells.Last() != want || w.Steps() != steps+i+1 {
			t.Errorf("step %d: %+v, %d steps", i+1, w.Cells.Last(), w.Steps()-steps)
		}
		if got := w.Permits.Last() == (permits.Call{Kind: permits.CaUnpark, Parker: 6}); got != (i >= 3) {
			t.Errorf("step %d: the last call is %+v", i+1, w.Permits.Last())
		}
	}
	if got := x.Got(); got != (ones.Result{Many: 1, Thread: 3}) {
		t.Errorf("got %+v", got)
	}
	if got := w.Notes.Since(1); !slices.Equal(got, []notes.Note{{Step: steps + 3, Thread: 4, Kind: notes.NtTake, Addr: 1152, Other: 3}}) {
		t.Errorf("notes %+v", got)
	}
	over := sleeper.Step(w)
	if o, token := sleeper.Got(w); !over || o != parks.PaUnparked || token != 9 {
		t.Errorf("over: %v, %d, %d", over, o, token)
	}
}

// taken of a queue by a One at one, by plain words: who, its place in it, and whether another one of the key is left.
func taken(queue []lines.Entry) (who, at int, more bool) {
	who, at = -1, -1
	for i, e := range queue {
		if e.Key == one && at == -1 {
			who, at = e.Thread, i
		} else if e.Key == one {
			more = true
		}
	}
	return who, at, more
}

// P19.1: all short queues of three keys, of threads that are each there once, or twice: the oldest one of the key is taken, all others stay in their order.
func TestQueues(t *testing.T) {
	keys := []api.Addr{one, neighbour, other}
	for size := range 6 {
		count := 1
		for range size {
			count *= len(keys)
		}
		for number := range count {
			for _, turn := range []int{1, 2, 30} {
				var queue []lines.Entry
				for i, n := 0, number; i < size; i++ {
					queue = append(queue, entry((60-i*7)%turn+i/turn*turn, keys[n%len(keys)], uint64(i)))
					n /= len(keys)
				}
				w := world(t, 0)
				w.Tables.Put(bucket(2, 3), queue)
				w.Tables.Put(bucket(2, 1), []lines.Entry{entry(61, one, 1), entry(62, other, 2)})
				way := nobody()
				if who, at, more := taken(queue); at >= 0 {
					left := slices.Concat(queue[:at], queue[at+1:])
					way = row(took(entered(lock3, 2), bucket(2, 3), one, who, more, left...), unparked(who, 9), ended(freed(lock3)))
				}
				check(t, w, plain(), way, nil)
			}
		}
	}
}

// P19.1: by itself a One takes one, and no more; the next one takes the next one, till nobody is left.
func TestOneBehindTheOther(t *testing.T) {
	w := having(t, entry(7, neighbour, 1), entry(3, one, 2), entry(9, one, 3), entry(8, neighbour, 4), entry(2, one, 5), entry(6, other, 6))
	more := true
	for i, want := range []int{3, 9, 2, -1, -1} {
		x := ones.NewOne(me, one, ones.Token(i))
		through(t, w, x)
		got := x.Got()
		if got.Thread != want || (got.Many == 1) != more || got.Many != 0 && got.Many != 1 || got.Moved != 0 || got.Fair {
			t.Errorf("%d: got %+v", i, got)
		}
		more = got.More
		if want >= 0 && w.Tokens[want] != uint64(i) {
			t.Errorf("thread %d was told %d", want, w.Tokens[want])
		}
	}
	if got := w.Tables.Queue(bucket(2, 3)); !slices.Equal(got, []lines.Entry{entry(7, neighbour, 1), entry(8, neighbour, 4)}) {
		t.Errorf("left are %v", got)
	}
	if got := w.Tables.Queue(bucket(2, 1)); !slices.Equal(got, []lines.Entry{entry(6, other, 6)}) {
		t.Errorf("elsewhere are %v", got)
	}
	if w.Permits.Count() != 3 {
		t.Errorf("%d calls", w.Permits.Count())
	}
}

// way of a One at one, in a world where some are queued, with what somebody else does ahead of some steps.
type way struct {
	queued []lines.Entry
	steps  []saw
	ahead  map[int]do
}

// checkWays of plain ones: in the end no lock is had.
func checkWays(t *testing.T, ways map[string]way) {
	t.Helper()
	for name, c := range ways {
		t.Run(name, func(t *testing.T) {
			w := having(t, c.queued...)
			x := plain()
			told := run(t, w, x, c.steps, c.ahead)
			for _, word := range w.Cells.Words() {
				if word.Addr >= 256 {
					t.Errorf("at %d stands %d", word.Addr, word.Value)
				}
			}
			checkOver(t, w, x, told)
		})
	}
}

// alone: thread 3 at one.
func alone() []lines.Entry { return []lines.Entry{entry(3, one, 7)} }

// P19.1: who is in the queue as line 1 is over counts: not who came, or went, ahead of that, or behind it.
func TestMeanwhile(t *testing.T) {
	late := entry(8, one, 1)
	checkWays(t, map[string]way{
		"nothing":                    {alone(), whole(9), nil},
		"somebody comes to the key":  {alone(), row(took(entered(lock3, 2), bucket(2, 3), one, 3, true, late), unparked(3, 9), ended(freed(lock3))), map[int]do{3: queuesUp(late)}},
		"somebody comes elsewhere":   {alone(), whole(9), map[int]do{3: queuesUp(entry(8, other, 1))}},
		"somebody comes too late":    {alone(), whole(9), map[int]do{4: queuesUp(late)}},
		"somebody comes to nobody":   {nil, row(took(entered(lock3, 2), bucket(2, 3), one, 8, false), unparked(8, 9), ended(freed(lock3))), map[int]do{3: queuesUp(late)}},
		"too late, to nobody":        {nil, nobody(), map[int]do{4: queuesUp(late)}},
		"all go":                     {alone(), nobody(), map[int]do{3: empties(bucket(2, 3))}},
		"all go, too late":           {[]lines.Entry{entry(3, one, 7), late}, row(took(entered(lock3, 2), bucket(2, 3), one, 3, true, late), unparked(3, 9), ended(freed(lock3))), map[int]do{4: empties(bucket(2, 3))}},
		"it comes back":              {alone(), whole(9), map[int]do{4: queuesUp(alone()...)}},
		"it is unparked, too":        {alone(), whole(9), map[int]do{2: unparks(6)}},
		"it is unparked ahead of it": {alone(), whole(9), map[int]do{4: both(unparks(6), func(w *worlds.World) { w.Tokens[3] = 50 })}},
		"others are unparked":        {alone(), whole(9), map[int]do{4: both(unparks(7), unparks(2*me))}},
		"cells of keys are others":   {alone(), whole(9), map[int]do{1: both(stores(64+3, uint64(other)), stores(64+me, uint64(one)))}},
		"the oldest, and no deadline": {[]lines.Entry{entry(9, neighbour, 1), late, entry(3, one, 7)},
			row(took(entered(lock3, 2), bucket(2, 3), one, 8, true, entry(9, neighbour, 1), entry(3, one, 7)), unparked(8, 9), ended(freed(lock3))), map[int]do{1: func(w *worlds.World) { w.Permits.Until(16, 9, 0) }}},
		"itself is queued": {[]lines.Entry{entry(me, one, 7)}, row(took(entered(lock3, 2), bucket(2, 3), one, me, false), unparked(me, 9), ended(freed(lock3))), nil},
	})
}

// P19.1: the table is replaced meanwhile: ahead of line 1, while it enters, or behind it.
func TestTableIsReplaced(t *testing.T) {
	for _, to := range []int{3, 4} {
		p := placeOf(one, uint64(to))
		a := lockOf(p)
		there := row(took(entered(a, uint64(to)), p, one, 3, false), unparked(3, 9), ended(freed(a)))
		turned := row(these(loaded(0, 2), cas(lock3, 0, 1), loaded(0, uint64(to))), freed(lock3))
		checkWays(t, map[string]way{
			"ahead of line 1": {alone(), there, map[int]do{1: replaces(to)}},
			"as it enters":    {alone(), row(turned, there), map[int]do{2: replaces(to)}},
			"under the lock":  {alone(), row(turned, there), map[int]do{3: replaces(to)}},
			"behind line 1":   {alone(), whole(9), map[int]do{4: replaces(to)}},
			"ahead of line 4": {alone(), whole(9), map[int]do{5: replaces(to)}},
			"nobody is there": {nil, row(none(entered(a, uint64(to))), ended(freed(a))), map[int]do{1: replaces(to)}},
		})
	}
	// The table's word is of a table that is not there: nobody is in its queues.
	a := lockOf(placeOf(one, 4))
	checkWays(t, map[string]way{"no such table": {alone(), row(none(entered(a, 4)), ended(freed(a))), map[int]do{1: both(ticks(9), stores(0, 4))}}})
}

// contended: steps of who finds a lock that somebody has, sleeps for it once, and then has it.
func contended(a api.Addr) []saw {
	return these(cas(a, 1, 1), called(permits.CaPrepare, myWord), cas(a, 1, 25), called(permits.CaPark, myWord), called(permits.CaPark, myWord), loaded(a, 0), cas(a, 0, 1))
}

// wakesOne: steps of a Free of a lock for which thread 9 waits.
func wakesOne(a api.Addr) []saw {
	return these(add(a, 41, 40), loaded(a, 40), cas(a, 40, 42), cas(a, 42, 0), called(permits.CaUnpark, 19))
}

// P19.1: somebody else has the lock of its bucket as it enters, or waits for it as it goes: lines 1 and 4 take as many steps as an Enter and a Free do.
func TestLockOfTheBucket(t *testing.T) {
	free := both(unparks(myWord), stores(lock3, 0))
	in := row(these(loaded(0, 2)), contended(lock3), these(loaded(0, 2)))
	late := entry(8, one, 1)
	queue := waitsFor(9, lock3)
	rest := row(unparked(3, 9), ended(freed(lock3)))
	checkWays(t, map[string]way{
		"somebody has it":                  {alone(), row(took(in, bucket(2, 3), one, 3, false), rest), map[int]do{2: stores(lock3, 1), 6: free}},
		"somebody has it, nobody is there": {nil, row(none(in), ended(freed(lock3))), map[int]do{2: stores(lock3, 1), 6: free}},
		"somebody comes meanwhile":         {alone(), row(took(in, bucket(2, 3), one, 3, true, late), rest), map[int]do{2: stores(lock3, 1), 5: queuesUp(late), 6: free}},
		"the first one goes meanwhile":     {alone(), row(took(in, bucket(2, 3), one, 8, false), unparked(8, 9), ended(freed(lock3))), map[int]do{2: stores(lock3, 1), 5: both(empties(bucket(2, 3)), queuesUp(late)), 6: free}},
		"somebody waits for it":            {alone(), row(takes(), unparked(3, 9), ended(wakesOne(lock3))), map[int]do{5: queue}},
		"somebody waited from line 1 on":   {alone(), row(takes(), unparked(3, 9), ended(wakesOne(lock3))), map[int]do{4: queue}},
		"somebody waits, nobody is there":  {nil, row(none(entered(lock3, 2)), ended(wakesOne(lock3))), map[int]do{4: queue}},
	})
}

// P19.1: of each thread, as who unparks, and as who is unparked, and of keys of all sorts.
func TestThreadsAndKeys(t *testing.T) {
	for i, key := range []api.Addr{0, 1, 64, 255, 256, 511, 1023, 1024, 1025, 1057, 1120, one, other, 1 << 31, math.MaxUint32} {
		for thread := range 64 {
			who, token := (thread+i*5)%64, uint64(thread)<<58+uint64(i)
			w := having(t, entry(who, key, math.MaxUint64), entry(who, key+1, 1), entry(who+1, key, 2))
			p := placeOf(key, 2)
			left := w.Tables.Queue(p)[1:]
			way := row(took(entered(lockOf(p), 2), p, key, who, true, left...), unparked(who, token), ended(freed(lockOf(p))))
			way[2].noted.Thread = thread
			check(t, w, ones.NewOne(thread, key, ones.Token(token)), way, nil)
		}
	}
}

// P19.1: entries of what is no thread, too, are taken; nobody is unparked by that, and nobody is told anything.
func TestEntriesOfNoThread(t *testing.T) {
	for _, who := range noThreads() {
		w := having(t, entry(who, one, 1), entry(3, one, 2))
		tokens := w.Tokens
		x := plain()
		for range 3 {
			x.Step(w)
		}
		if got, want := x.Got(), (ones.Result{Many: 1, More: true, Thread: who}); got != want {
			t.Errorf("thread %d: got %+v", who, got)
		}
		if got := w.Notes.All(); len(got) != 1 || got[0] != (notes.Note{Step: 3, Thread: me, Kind: notes.NtTake, Addr: one, Other: who}) {
			t.Errorf("thread %d: notes %+v", who, got)
		}
		through(t, w, x)
		if w.Tokens != tokens || w.Permits.Count() != 0 || w.Cells.Peek(lock3) != 0 || !slices.Equal(w.Tables.Queue(bucket(2, 3)), []lines.Entry{entry(3, one, 2)}) {
			t.Errorf("thread %d: %d calls, %v are left", who, w.Permits.Count(), w.Tables.Queue(bucket(2, 3)))
		}
	}
}

// P19.1: the bucket's timer is asked behind the taking: due, it fires with the next draw; ahead of its tick, and at it, it does not.
func TestTimers(t *testing.T) {
	const greatest uint64 = math.MaxUint64
	for name, c := range map[string]struct {
		at, was, now uint64
		fires        bool
		then         uint64 // At, with the draw 3
	}{
		"as it began":                {0, 0, 0, false, 0},
		"a tick behind its begin":    {0, 0, 1, true, 4},
		"long behind its begin":      {0, 0, 900, true, 903},
		"ahead of its tick":          {10, 4, 9, false, 0},
		"long ahead of it":           {10, 4, 0, false, 0},
		"at its tick":                {10, 4, 10, false, 0},
		"behind its tick":            {10, 4, 11, true, 14},
		"fired later than its tick":  {10, 40, 11, true, 14},
		"fired behind now":           {10, 40, 10, false, 0},
		"the greatest tick":          {greatest, 0, greatest, false, 0},
		"behind all but that":        {greatest - 1, 7, greatest, true, greatest},
		"a sum that stays":           {5, 5, greatest - 2, true, greatest},
		"a sum that is the greatest": {5, 5, greatest - 3, true, greatest},
		"a great sum":                {5, 5, greatest - 4, true, greatest - 1},
	} {
		t.Run(name, func(t *testing.T) {
			w := having(t, alone()...)
			both(ticks(c.now), sets(bucket(2, 3), c.at, c.was))(w)
			way := whole(9)
			if c.fires {
				way = row(fired(takes(), c.then, c.now), way[3:])
			}
			check(t, w, plain(), way, nil)

			// Of nobody it is not asked, and nothing is drawn.
			w = world(t, 0)
			both(ticks(c.now), sets(bucket(2, 3), c.at, c.was))(w)
			check(t, w, plain(), nobody(), nil)
		})
	}
}

// P19.1: it is the tick as line 1 is over that counts.
func TestTicksMeanwhile(t *testing.T) {
	checkWays(t, map[string]way{
		"as it begins":     {alone(), row(fired(takes(), 5, 2), whole(9)[3:]), map[int]do{1: ticks(2)}},
		"as it enters":     {alone(), row(fired(takes(), 5, 2), whole(9)[3:]), map[int]do{3: ticks(2)}},
		"behind line 1":    {alone(), whole(9), map[int]do{4: ticks(2)}},
		"its timer is set": {alone(), whole(9), map[int]do{2: ticks(2), 3: sets(bucket(2, 3), 2, 1)}},
		"another's is set": {alone(), row(fired(takes(), 5, 2), whole(9)[3:]), map[int]do{2: ticks(2), 3: sets(bucket(2, 2), 2, 1)}},
		"of a greater table": {alone(), row(took(entered(lockOf(placeOf(one, 3)), 3), placeOf(one, 3), one, 3, false), unparked(3, 9), ended(freed(lockOf(placeOf(one, 3))))),
			map[int]do{1: both(ticks(2), replaces(3))}},
		"of a greater table, due": {alone(), row(fired(took(entered(lockOf(placeOf(one, 3)), 3), placeOf(one, 3), one, 3, false), 6, 3), unparked(3, 9), ended(freed(lockOf(placeOf(one, 3))))),
			map[int]do{1: both(ticks(2), both(replaces(3), ticks(1)))}},
	})
}

// P19.1: draws, one behind the other: just who takes somebody from a bucket whose timer is due has one; behind the last one 0 is drawn.
func TestDraws(t *testing.T) {
	w := world(t, 0)
	begun := draws()
	timer := fairs.Timer{}
	for i := range 60 {
		w.Clock.Tick(uint64(i % 3))
		present := i%4 != 1
		if present {
			queuesUp(entry(3, one, 1))(w)
		}
		want := present && w.Clock.Now() > timer.At
		if want {
			draw := uint64(0)
			if len(begun) > 0 {
				draw, begun = begun[0]%6, begun[1:]
			}
			timer = fairs.Timer{At: w.Clock.Now() + draw, Fired: w.Clock.Now()}
		}
		x := plain()
		through(t, w, x)
		if x.Got().Fair != want || w.Tables.Timer(bucket(2, 3)) != timer || w.Clock.Left() != len(begun) {
			t.Errorf("%d, at tick %d: got %+v, the timer %+v, want %+v, %d draws", i, w.Clock.Now(), x.Got(), w.Tables.Timer(bucket(2, 3)), timer, w.Clock.Left())
		}
	}
	if len(begun) != 0 {
		t.Errorf("%d draws are left", len(begun))
	}
}

// sleeper: thread 3 parks at one, and takes so many steps.
func sleeper(t *testing.T, w *worlds.World, until api.Until, steps int) *parks.Park {
	t.Helper()
	x := parks.NewPark(3, one, 7, until, nil)
	for range steps {
		if x.Step(w) {
			t.Fatal("over")
		}
	}
	return x
}

// P19.1, P19.3: who sleeps has a permit behind line 3, and so has who does not sleep yet; it is unparked in a step, with the token.
func TestPermits(t *testing.T) {
	for _, steps := range []int{6, 7, 8, 20} {
		for _, until := range []api.Until{{}, {On: true, At: 9}} {
			for _, token := range []uint64{0, 1, 44, math.MaxUint64} {
				w := world(t, 0)
				s := sleeper(t, w, until, steps)
				x := ones.NewOne(me, one, ones.Token(token))
				for i := range 3 {
					if x.Step(w); w.Permits.Asleep(6) != (steps > 6) || steps > 6 && w.Permits.Goes(6, 0) || w.Tokens[3] != 0 {
						t.Errorf("step %d: it goes on", i+1)
					}
				}
				if x.Step(w); w.Permits.Asleep(6) != (steps > 6) || !w.Permits.Goes(6, 0) || w.Permits.Late(6) || w.Tokens[3] != token {
					t.Errorf("behind line 3: asleep: %v, its token is %d", w.Permits.Asleep(6), w.Tokens[3])
				}
				over := s.Step(w)
				if o, got := s.Got(w); !over || o != parks.PaUnparked || got != token {
					t.Errorf("its Park: over %v, %d, %d", over, o, got)
				}
				if x.Step(w); !x.Over() || w.Permits.Park(6) != permits.OuBlocks {
					t.Error("a permit more")
				}
			}
		}
	}
}

// P19.3: its deadline comes while a One has the lock, or is about to: it finds the permit behind that, and ends unparked.
func TestUnparkedThoughLate(t *testing.T) {
	for ahead := range 5 {
		w := world(t, 0)
		s := sleeper(t, w, api.Until{On: true, At: 1}, 7)
		x := plain()
		// The last step ahead is line 3, or one of its Enter's.
		for range ahead {
			x.Step(w)
		}
		w.Clock.Tick(1)
		over := s.Step(w)
		for i := 0; !over || !x.Over(); i++ {
			if i > 40 {
				t.Fatal("they go on")
			}
			x.Step(w)
			over = s.Step(w)
		}
		if o, token := s.Got(w); o != parks.PaUnparked || token != 9 || x.Got().Thread != 3 || len(w.Tables.Places(3)) != 0 {
			t.Errorf("behind %d steps: %d, %d, got %+v", ahead, o, token, x.Got())
		}
	}
}

// noThreads: numbers that are no thread's.
func noThreads() []int {
	return []int{-1, -2, -64, 64, 65, 128, 1 << 32, -1 << 32, 1<<32 + 5, math.MinInt, math.MaxInt}
}

// empty is what is got where nothing is told.
func empty() ones.Result { return ones.Result{Thread: -1} }

// P19.1, R3: what is of no thread, of none, and of one that no call made is over, and does nothing; no answer is asked.
func TestOverFromTheStart(t *testing.T) {
	w := having(t, alone()...)
	w.Clock.Tick(3)
	log := &asks{w: w}
	all := []*ones.One{nil, {}, new(ones.One)}
	for _, thread := range noThreads() {
		all = append(all, ones.NewOne(thread, one, nil), ones.NewOne(thread, one, mine), ones.NewOne(thread, one, &answer{steps: 1, log: log}))
	}
	words, before := w.Cells.Words(), looksOf(w)
	for i, x := range all {
		for _, in := range []*worlds.World{w, nil, {}} {
			if !x.Over() || !x.Step(in) || !x.Over() || x.Got() != empty() {
				t.Errorf("%d: over: %v, got %+v", i, x.Over(), x.Got())
			}
		}
	}
	if w.Steps() != 0 || !slices.Equal(w.Cells.Words(), words) || !looksOf(w).same(before) || len(log.told) != 0 {
		t.Error("they do something")
	}
}

// P19.1: one that has just begun is not over, and has got nothing; in no world it does nothing.
func TestJustBegun(t *testing.T) {
	for _, thread := range []int{0, 1, me, 62, 63} {
		for _, a := range []ones.Answer{nil, mine, &answer{steps: 1}} {
			x := ones.NewOne(thread, one, a)
			for range 5 {
				if x.Over() || x.Step(nil) || x.Got() != empty() {
					t.Errorf("thread %d: over: %v, got %+v", thread, x.Over(), x.Got())
				}
			}
		}
	}
}

// P19.1: behind its last step it is over, whatever comes.
func TestOverStays(t *testing.T) {
	w := having(t, alone()...)
	x := plain()
	run(t, w, x, whole(9), nil)
	queuesUp(entry(8, one, 1), entry(9, one, 1))(w)
	both(ticks(5), stores(lock3, 1))(w)
	steps := w.Steps()
	for range 9 {
		if !x.Step(w) || !x.Step(nil) || !x.Over() || x.Got() != (ones.Result{Many: 1, Thread: 3}) || w.Steps() != steps {
			t.Fatalf("over: %v, got %+v, %d steps", x.Over(), x.Got(), w.Steps()-steps)
		}
	}
}

// P19.1: what is not its own stays: other buckets, who is asleep, other tokens, the clock.
func TestNothingElse(t *testing.T) {
	w := having(t, entry(3, one, 7), entry(30, neighbour, 1), entry(31, other, 1), entry(32, 0, 1), entry(33, 1, 1))
	for thread := range w.Tokens {
		w.Tokens[thread] = uint64(thread) + 1
		w.Permits.Park(2 * thread)
		w.Permits.Park(2*thread + 1)
	}
	check(t, w, plain(), row(took(entered(lock3, 2), bucket(2, 3), one, 3, false, entry(30, neighbour, 1)), unparked(3, 9), ended(freed(lock3))), nil)
	for parker := range 128 {
		if w.Permits.Goes(parker, 0) != (parker == 6) || !w.Permits.Asleep(parker) {
			t.Errorf("parker %d: goes on: %v", parker, w.Permits.Goes(parker, 0))
		}
	}
}

// R3: a world that no call made has no lock to be had: it goes on there; no line panics there.
func TestEmptyWorld(t *testing.T) {
	for steps := range 12 {
		w := having(t, alone()...)
		x := ones.NewOne(me, one, &answer{steps: 3, log: &asks{w: w}})
		for range steps {
			x.Step(w)
		}
		var empty worlds.World
		for range 40 {
			x.Step(&empty)
		}
		if steps == 0 && (x.Over() || x.Got() != (ones.Result{Thread: -1}) || empty != (worlds.World{})) {
			t.Error("it has a lock in no cells")
		}
	}
}

// R3: worlds that lack a part: what there is is used.
func TestWorldsThatLackSomething(t *testing.T) {
	w := worlds.World{Cells: cells.New()}
	x := plain()
	for i := range 4 {
		if x.Step(&w) != (i == 3) {
			t.Errorf("step %d: over: %v", i+1, x.Over())
		}
	}
	if x.Got() != empty() || w.Steps() != 4 || w.Cells.Peek(lock3) != 0 {
		t.Errorf("without tables: got %+v, %d steps", x.Got(), w.Steps())
	}
	w = worlds.World{Cells: cells.New(), Tables: tables.New(0)}
	w.Tables.Put(bucket(2, 3), alone())
	x = plain()
	for i := range 5 {
		if x.Step(&w) != (i == 4) {
			t.Errorf("step %d: over: %v", i+1, x.Over())
		}
	}
	if x.Got() != (ones.Result{Many: 1, Thread: 3}) || w.Tokens[3] != 9 || len(w.Tables.Places(3)) != 0 || w.Steps() != 4 {
		t.Errorf("without parkers, notes and a clock: got %+v, its token is %d", x.Got(), w.Tokens[3])
	}
}

// R1: a world is used in the step that it is handed to, and in no other.
func TestTwoWorlds(t *testing.T) {
	here, there := world(t, 0), having(t, alone()...)
	x := plain()
	x.Step(here)
	x.Step(here)
	x.Step(there)
	if there.Steps() != 1 || here.Steps() != 2 || here.Notes.Count() != 0 || there.Notes.Count() != 1 || len(there.Tables.Places(3)) != 0 {
		t.Error("line 1 is not over where it was handed")
	}
	if x.Step(here); here.Tokens[3] != 9 || there.Tokens[3] != 0 || here.Permits.Count() != 1 || there.Permits.Count() != 0 {
		t.Error("line 3 is not where it was handed")
	}
	if !x.Step(here) || here.Cells.Peek(lock3) != 0 || there.Steps() != 1 {
		t.Error("line 4 is not where it was handed")
	}
}
