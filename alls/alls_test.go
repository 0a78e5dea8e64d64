package alls_test

import (
	"math"
	"slices"
	"testing"

	"layby/alls"
	"layby/api"
	"layby/cells"
	"layby/fairs"
	"layby/lines"
	"layby/notes"
	"layby/parks"
	"layby/permits"
	"layby/tables"
	"layby/worlds"
)

// me: who unparks mostly, and its parker of words.
const (
	me     = 5
	myWord = 2*me + 1
)

// Keys: one and its neighbour are in bucket 3 of the table of 2 bits, the other one is in bucket 1.
const (
	one       api.Addr = 1152
	neighbour api.Addr = 1168
	other     api.Addr = 1156
)

// Locks of these two buckets.
const (
	lock3 api.Addr = 263
	lock1 api.Addr = 261
)

// mine: the token of who unparks.
const mine uint64 = 9

// bitsOf a word, by plain numbers.
func bitsOf(word uint64) int {
	for bits := 2; bits <= 8; bits++ {
		if word == uint64(bits) {
			return bits
		}
	}
	return 2
}

// placeOf a key by a word, by plain numbers.
func placeOf(key api.Addr, word uint64) tables.Place {
	bits := bitsOf(word)
	return tables.Place{Bits: bits, Bucket: int(uint64(key) * 11400714819323198485 / (1 << (64 - bits)))}
}

// lockOf a place, by plain numbers.
func lockOf(p tables.Place) api.Addr {
	return api.Addr(256 + 1<<p.Bits + p.Bucket)
}

// bucket of a table.
func bucket(bits, n int) tables.Place {
	return tables.Place{Bits: bits, Bucket: n}
}

// home of one and its neighbour, as worlds begin.
func home() tables.Place { return bucket(2, 3) }

// The keys stand as it is said of them.
func TestKeysAreApart(t *testing.T) {
	for key, want := range map[api.Addr]tables.Place{one: home(), neighbour: home(), other: bucket(2, 1)} {
		if got := placeOf(key, 2); got != want {
			t.Errorf("key %d: %+v", key, got)
		}
	}
	if lockOf(placeOf(one, 2)) != lock3 || lockOf(placeOf(other, 2)) != lock1 || placeOf(one, 4) == placeOf(neighbour, 4) {
		t.Error("locks, or a greater table")
	}
}

// world of a Spin, in which some words stand at first; no step was made.
func world(t *testing.T, spin int, l ...cells.Word) *worlds.World {
	t.Helper()
	w, e := worlds.New(worlds.Config{Spin: spin, Most: 5, Draws: []uint64{3, 7, 4, 11}})
	if w == nil || e != 0 {
		t.Fatalf("no world of Spin %d: %d", spin, e)
	}
	w.Cells = cells.New(append([]cells.Word{{Addr: 0, Value: 2}}, l...)...)
	return w
}

// entry of a thread.
func entry(thread int, key api.Addr, token uint64) lines.Entry {
	return lines.Entry{Thread: thread, Key: key, Token: token}
}

// queuesUp entries, each where its key hashes to.
func queuesUp(l ...lines.Entry) do {
	return func(w *worlds.World) {
		for _, e := range l {
			p := placeOf(e.Key, w.Cells.Peek(0))
			w.Tables.Put(p, append(w.Tables.Queue(p), e))
		}
	}
}

// having: a world where some are queued, as if they had parked.
func having(t *testing.T, l ...lines.Entry) *worlds.World {
	t.Helper()
	w := world(t, 0)
	queuesUp(l...)(w)
	return w
}

// looks: what of a world an All may change, beside cells and parkers; and what it may not.
type looks struct {
	queues map[tables.Place][]lines.Entry // those that are not empty
	timers map[tables.Place]fairs.Timer
	notes  []notes.Note
	tokens [64]uint64
	left   int // draws
	tick   uint64
	spin   int
}

// looksOf a world.
func looksOf(w *worlds.World) looks {
	l := looks{
		queues: map[tables.Place][]lines.Entry{}, timers: map[tables.Place]fairs.Timer{},
		notes: w.Notes.All(), tokens: w.Tokens, left: w.Clock.Left(), tick: w.Clock.Now(), spin: w.Spin,
	}
	for bits := 2; bits <= 4; bits++ {
		for n := range 1 << bits {
			p := bucket(bits, n)
			if queue := w.Tables.Queue(p); len(queue) > 0 {
				l.queues[p] = queue
			}
			if w.Tables.Has(bits) {
				l.timers[p] = w.Tables.Timer(p)
			}
		}
	}
	return l
}

// same looks?
func (l looks) same(as looks) bool {
	if len(l.queues) != len(as.queues) || len(l.timers) != len(as.timers) {
		return false
	}
	for p, queue := range l.queues {
		if !slices.Equal(queue, as.queues[p]) {
			return false
		}
	}
	for p, timer := range l.timers {
		if timer != as.timers[p] {
			return false
		}
	}
	return slices.Equal(l.notes, as.notes) && l.tokens == as.tokens && l.left == as.left && l.tick == as.tick && l.spin == as.spin
}

// saw: what a step is to have done, by plain numbers.
type saw struct {
	access api.Access   // of a step that is an access
	call   permits.Call // of a step that is a call
	over   bool         // behind it it is over

	took   *taking
	tokens map[int]uint64 // that it sets
}

// taking of all of a key: of whom Got tells from it on, where they were, and who is left there.
type taking struct {
	by, at  int // the thread that takes, and the place's bucket
	bits    int
	key     api.Addr
	threads []int
	left    []lines.Entry
}

// Accesses and calls.

func loaded(a api.Addr, found uint64) saw {
	return saw{access: api.Access{Kind: api.AcLoad, Addr: a, Was: found, Is: found}}
}

func cas(a api.Addr, was, is uint64) saw {
	return saw{access: api.Access{Kind: api.AcCAS, Addr: a, Was: was, Is: is}}
}

func add(a api.Addr, was, is uint64) saw {
	return saw{access: api.Access{Kind: api.AcAdd, Addr: a, Was: was, Is: is}}
}

func called(k permits.CallKind, parker int) saw {
	return saw{call: permits.Call{Kind: k, Parker: parker}}
}

// Rows of steps.

// row of steps, one behind the other.
func row(parts ...[]saw) []saw { return slices.Concat(parts...) }

// these steps.
func these(s ...saw) []saw { return s }

// ended: behind the last one of these steps it is over.
func ended(steps []saw) []saw {
	out := slices.Clone(steps)
	out[len(out)-1].over = true
	return out
}

// entered a bucket by the table's word (line 1).
func entered(a api.Addr, word uint64) []saw {
	return these(loaded(0, word), cas(a, 0, 1), loaded(0, word))
}

// freed a lock for which nobody waits (line 3).
func freed(a api.Addr) []saw { return these(add(a, 1, 0)) }

// took: with the last one of these steps some threads are taken out of a place's queue, at a key; who is left there.
func took(steps []saw, p tables.Place, key api.Addr, threads []int, left ...lines.Entry) []saw {
	out := slices.Clone(steps)
	out[len(out)-1].took = &taking{by: me, bits: p.Bits, at: p.Bucket, key: key, threads: threads, left: left}
	return out
}

// unparked threads, a step each, with a token (line 2).
func unparked(token uint64, threads ...int) []saw {
	var out []saw
	for _, who := range threads {
		s := called(permits.CaUnpark, 2*who)
		s.tokens = map[int]uint64{who: token}
		out = append(out, s)
	}
	return out
}

// some threads, as a list.
func some(threads ...int) []int { return threads }

// takes threads that are at one, and nobody else in its bucket, in a world as at first (line 1).
func takes(threads ...int) []saw {
	return took(entered(lock3, 2), home(), one, threads)
}

// whole: an All that takes threads that are at one, and nobody else in its bucket, with a token.
func whole(token uint64, threads ...int) []saw {
	return row(takes(threads...), unparked(token, threads...), ended(freed(lock3)))
}

// nobody: an All that finds nobody at one.
func nobody() []saw {
	return row(entered(lock3, 2), ended(freed(lock3)))
}

// change of what a world looks like that a step is to make.
func (s saw) change(l *looks, steps int) {
	if s.took != nil {
		p := bucket(s.took.bits, s.took.at)
		if l.queues[p] = s.took.left; len(s.took.left) == 0 {
			delete(l.queues, p)
		}
		for _, who := range s.took.threads {
			l.notes = append(l.notes, notes.Note{Step: steps, Thread: s.took.by, Kind: notes.NtTake, Addr: s.took.key, Other: who})
		}
	}
	for thread, token := range s.tokens {
		l.tokens[thread] = token
	}
}

// checkSaw: that the next step of an All does just that.
func checkSaw(t *testing.T, i int, x *alls.All, w *worlds.World, want saw) {
	t.Helper()
	accesses, calls, all := w.Cells.Count(), w.Permits.Count(), looksOf(w)
	if over := x.Step(w); over != want.over || x.Over() != want.over {
		t.Errorf("step %d: %v, Over = %v", i, over, x.Over())
	}
	if want.access != (api.Access{}) {
		accesses++
		if got := w.Cells.Last(); got != want.access {
			t.Errorf("step %d: the access %+v, want %+v", i, got, want.access)
		}
	}
	if want.call != (permits.Call{}) {
		calls++
		if got := w.Permits.Last(); got != want.call {
			t.Errorf("step %d: the call %+v, want %+v", i, got, want.call)
		}
	}
	if w.Cells.Count() != accesses || w.Permits.Count() != calls {
		t.Errorf("step %d: %d accesses, %d calls; want %d, %d", i, w.Cells.Count(), w.Permits.Count(), accesses, calls)
	}
	want.change(&all, accesses+calls)
	if got := looksOf(w); !got.same(all) {
		t.Errorf("step %d: %+v, want %+v", i, got, all)
	}
}

// checkGot: that it tells of these threads, in memory of its own, with no room behind.
func checkGot(t *testing.T, i int, x *alls.All, want []int) {
	t.Helper()
	for range 2 {
		got := x.Got()
		if !slices.Equal(got, want) || cap(got) != len(got) {
			t.Errorf("step %d: got %v, room for %d; want %v", i, got, cap(got), want)
		}
		for i := range got {
			got[i] = -9
		}
	}
}

// do: something of somebody else, ahead of a step.
type do func(w *worlds.World)

// stores at an address.
func stores(a api.Addr, v uint64) do {
	return func(w *worlds.World) { w.Cells.Store(a, v) }
}

// both, one behind the other.
func both(first, second do) do {
	return func(w *worlds.World) {
		first(w)
		second(w)
	}
}

// unparks a parker.
func unparks(parker int) do {
	return func(w *worlds.World) { w.Permits.Unpark(parker) }
}

// ticks of the clock.
func ticks(n uint64) do {
	return func(w *worlds.World) { w.Clock.Tick(n) }
}

// empties a bucket's queue.
func empties(p tables.Place) do {
	return func(w *worlds.World) { w.Tables.Put(p, nil) }
}

// sets a place's timer.
func sets(p tables.Place, at, fired uint64) do {
	return func(w *worlds.World) { w.Tables.PutTimer(p, fairs.Timer{At: at, Fired: fired}) }
}

// replaces the table that counts by a greater one.
func replaces(to int) do {
	return func(w *worlds.World) {
		w.Tables.Grow(bitsOf(w.Cells.Peek(0)), to, w.Clock.Now())
		w.Cells.Store(0, uint64(to))
	}
}

// waitsFor a lock, that somebody has: a thread, alone.
func waitsFor(thread int, a api.Addr) do {
	return func(w *worlds.World) {
		w.Links.Push(thread, -1)
		w.Cells.Store(a, 4*uint64(thread+1)+1)
	}
}

// run a row of steps, where somebody else does something ahead of some of them: of whom it tells in the end.
func run(t *testing.T, w *worlds.World, x *alls.All, way []saw, ahead map[int]do) []int {
	t.Helper()
	if x.Over() {
		t.Error("over ahead of its first step")
	}
	var told []int
	for i, s := range way {
		if act := ahead[i+1]; act != nil {
			act(w)
		}
		if x.Step(nil) || x.Over() {
			t.Error("a step in no world")
		}
		checkGot(t, i+1, x, told)
		checkSaw(t, i+1, x, w, s)
		if s.took != nil {
			told = s.took.threads
		}
	}
	checkGot(t, len(way)+1, x, told)
	return told
}

// checkOver: that it is, and does nothing, whatever changes.
func checkOver(t *testing.T, w *worlds.World, x *alls.All, told []int) {
	t.Helper()
	for i := range 3 {
		w.Cells.Store(0, uint64(i+1))
		queuesUp(entry(40+i, one, 1), entry(50+i, other, 1))(w)
		checkSaw(t, i, x, w, saw{over: true})
		if !x.Step(nil) || !x.Step(&worlds.World{}) || !x.Over() {
			t.Error("not over in no world, or in another one")
		}
		checkGot(t, i, x, told)
	}
}

// check that an All does just that; if the last step says so, it is over.
func check(t *testing.T, w *worlds.World, x *alls.All, way []saw, ahead map[int]do) {
	t.Helper()
	told := run(t, w, x, way, ahead)
	if way[len(way)-1].over {
		checkOver(t, w, x, told)
	}
}

// through an operation: how many steps that takes.
func through(t *testing.T, w *worlds.World, x parks.Part) int {
	t.Helper()
	for n := range 1000 {
		if x.Step(w) {
			return n + 1
		}
	}
	t.Fatal("it goes on for ever")
	return 0
}

// plain All at one.
func plain() *alls.All { return alls.NewAll(me, one, mine) }

// asleep: a thread that parks at a key, by so many steps as it takes till it sleeps.
func asleep(t *testing.T, w *worlds.World, thread int, key api.Addr) *parks.Park {
	t.Helper()
	x := parks.NewPark(thread, key, 7, api.Until{}, nil)
	for range 7 {
		if x.Step(w) {
			t.Fatal("it does not sleep")
		}
	}
	return x
}

// The chapter's example.
func TestExample(t *testing.T) {
	w, e := worlds.New(worlds.Config{})
	if e != 0 {
		t.Fatal(e)
	}
	sleepers := []*parks.Park{asleep(t, w, 3, 1152), asleep(t, w, 5, 1152)}
	steps, x := w.Steps(), alls.NewAll(4, 1152, 9)
	load, call := api.Access{Kind: api.AcLoad, Addr: 0, Was: 2, Is: 2}, permits.Call{Kind: permits.CaUnpark, Parker: 6}
	for i, want := range []struct {
		access api.Access
		call   permits.Call
	}{
		{load, permits.Call{Kind: permits.CaPark, Parker: 10}}, {api.Access{Kind: api.AcCAS, Addr: 263, Was: 0, Is: 1}, permits.Call{Kind: permits.CaPark, Parker: 10}}, {load, permits.Call{Kind: permits.CaPark, Parker: 10}},
		{load, call}, {load, permits.Call{Kind: permits.CaUnpark, Parker: 10}}, {api.Access{Kind: api.AcAdd, Addr: 263, Was: 1, Is: 0}, permits.Call{Kind: permits.CaUnpark, Parker: 10}},
	} {
		if over := x.Step(w); over != (i == 5) || w.Cells.Last() != want.access || w.Permits.Last() != want.call || w.Steps() != steps+i+1 {
			t.Errorf("step %d: %+v, %+v, %d steps", i+1, w.Cells.Last(), w.Permits.Last(), w.Steps()-steps)
		}
	}
	checkGot(t, 6, x, some(3, 5))
	want := []notes.Note{{Step: steps + 3, Thread: 4, Kind: notes.NtTake, Addr: 1152, Other: 3}, {Step: steps + 3, Thread: 4, Kind: notes.NtTake, Addr: 1152, Other: 5}}
	if got := w.Notes.Since(2); !slices.Equal(got, want) {
		t.Errorf("notes %+v", got)
	}
	for _, s := range sleepers {
		over := s.Step(w)
		if o, token := s.Got(w); !over || o != parks.PaUnparked || token != 9 {
			t.Errorf("over: %v, %d, %d", over, o, token)
		}
	}
}

// parted queue of an All at one, by plain words: whose entries are taken, and who is left.
func parted(queue []lines.Entry) (threads []int, left []lines.Entry) {
	for _, e := range queue {
		if e.Key == one {
			threads = append(threads, e.Thread)
		} else {
			left = append(left, e)
		}
	}
	return threads, left
}

// wayOf an All at one, where its bucket has a queue, as worlds begin.
func wayOf(queue []lines.Entry) []saw {
	threads, left := parted(queue)
	if len(threads) == 0 {
		return nobody()
	}
	return row(took(entered(lock3, 2), home(), one, threads, left...), unparked(mine, threads...), ended(freed(lock3)))
}

// P20.1: all short queues of three keys, of threads that are each there once, or twice: all of the key are taken, all others stay in their order.
func TestQueues(t *testing.T) {
	keys := []api.Addr{one, neighbour, other}
	for size := range 6 {
		count := 1
		for range size {
			count *= len(keys)
		}
		for number := range count {
			for _, turn := range []int{1, 2, 30} {
				var queue []lines.Entry
				for i, n := 0, number; i < size; i++ {
					queue = append(queue, entry((60-i*7)%turn+i/turn*turn, keys[n%len(keys)], uint64(i)))
					n /= len(keys)
				}
				w := world(t, 0)
				w.Tables.Put(home(), queue)
				w.Tables.Put(bucket(2, 1), []lines.Entry{entry(61, one, 1), entry(62, other, 2)})
				check(t, w, plain(), wayOf(queue), nil)
			}
		}
	}
}

// P20.1: long queues: of all threads, rising, falling, and mixed, with others of the bucket at each place, or nowhere.
func TestLongQueues(t *testing.T) {
	for _, by := range []int{1, 63, 37, 11} {
		for _, every := range []int{1, 2, 3, 64} {
			var queue []lines.Entry
			for i := range 64 {
				key := one
				if i%every == every-1 && every > 1 {
					key = neighbour
				}
				queue = append(queue, entry(i*by%64, key, uint64(i)))
			}
			check(t, having(t, queue...), plain(), wayOf(queue), nil)
		}
	}
	// More entries than there are threads.
	var queue []lines.Entry
	for i := range 300 {
		queue = append(queue, entry(i%64, one, 0))
	}
	check(t, having(t, queue...), plain(), wayOf(queue), nil)
}

// P20.1, P20.2: the next All finds nobody, as long as nobody parks again.
func TestOneBehindTheOther(t *testing.T) {
	w := having(t, entry(7, neighbour, 1), entry(3, one, 2), entry(9, one, 3), entry(8, neighbour, 4), entry(2, one, 5), entry(6, other, 6))
	for i, want := range [][]int{{3, 9, 2}, nil, nil, {9}, nil} {
		if i == 3 {
			queuesUp(entry(9, one, 8))(w)
		}
		x, calls := alls.NewAll(me, one, uint64(i)), w.Permits.Count()
		n := through(t, w, x)
		checkGot(t, i, x, want)
		if n != 4+len(want) || w.Permits.Count() != calls+len(want) {
			t.Errorf("%d: %d steps, %d calls", i, n, w.Permits.Count()-calls)
		}
		for _, who := range want {
			if w.Tokens[who] != uint64(i) {
				t.Errorf("thread %d was told %d", who, w.Tokens[who])
			}
		}
	}
	if got := w.Tables.Queue(home()); !slices.Equal(got, []lines.Entry{entry(7, neighbour, 1), entry(8, neighbour, 4)}) {
		t.Errorf("left are %v", got)
	}
	if got := w.Tables.Queue(bucket(2, 1)); !slices.Equal(got, []lines.Entry{entry(6, other, 6)}) {
		t.Errorf("elsewhere are %v", got)
	}
}

// way of an All at one, in a world where some are queued, with what somebody else does ahead of some steps.
type way struct {
	queued []lines.Entry
	steps  []saw
	ahead  map[int]do
}

// checkWays of plain ones: in the end no lock is had.
func checkWays(t *testing.T, ways map[string]way) {
	t.Helper()
	for name, c := range ways {
		t.Run(name, func(t *testing.T) {
			w := having(t, c.queued...)
			x := plain()
			told := run(t, w, x, c.steps, c.ahead)
			for _, word := range w.Cells.Words() {
				if word.Addr >= 256 {
					t.Errorf("at %d stands %d", word.Addr, word.Value)
				}
			}
			checkOver(t, w, x, told)
		})
	}
}

// two threads, 3 and 6, at one.
func two() []lines.Entry { return []lines.Entry{entry(3, one, 7), entry(6, one, 8)} }

// P20.1: who is in the queue as line 1 is over counts: not who came, or went, ahead of that, or behind it.
func TestMeanwhile(t *testing.T) {
	late, again := entry(8, one, 1), both(unparks(6), func(w *worlds.World) { w.Tokens[3], w.Tokens[6] = 50, 60 })
	beside := []lines.Entry{entry(9, neighbour, 1), entry(3, one, 7), entry(10, neighbour, 1), entry(6, one, 8), entry(11, neighbour, 1)}
	checkWays(t, map[string]way{
		"nothing":                       {two(), whole(9, 3, 6), nil},
		"others are beside":             {beside, row(took(entered(lock3, 2), home(), one, some(3, 6), beside[0], beside[2], beside[4]), unparked(9, 3, 6), ended(freed(lock3))), nil},
		"somebody comes to the key":     {two(), whole(9, 3, 6, 8), map[int]do{3: queuesUp(late)}},
		"somebody comes elsewhere":      {two(), whole(9, 3, 6), map[int]do{3: queuesUp(entry(8, other, 1))}},
		"somebody comes too late":       {two(), whole(9, 3, 6), map[int]do{4: queuesUp(late)}},
		"somebody comes as some go on":  {two(), whole(9, 3, 6), map[int]do{5: queuesUp(late)}},
		"somebody comes to nobody":      {nil, whole(9, 8), map[int]do{3: queuesUp(late)}},
		"too late, to nobody":           {nil, nobody(), map[int]do{4: queuesUp(late)}},
		"all go":                        {two(), nobody(), map[int]do{3: empties(home())}},
		"others come in their place":    {two(), whole(9, 8), map[int]do{3: both(empties(home()), queuesUp(late))}},
		"all go, too late":              {beside, row(took(entered(lock3, 2), home(), one, some(3, 6), beside[0], beside[2], beside[4]), unparked(9, 3, 6), ended(freed(lock3))), map[int]do{4: empties(home())}},
		"they come back":                {two(), whole(9, 3, 6), map[int]do{4: queuesUp(two()...)}},
		"one comes back between":        {two(), whole(9, 3, 6), map[int]do{5: queuesUp(two()[:1]...)}},
		"one is unparked, too":          {two(), whole(9, 3, 6), map[int]do{2: unparks(6)}},
		"one is unparked ahead of it":   {two(), whole(9, 3, 6), map[int]do{4: again}},
		"told another thing between":    {two(), whole(9, 3, 6), map[int]do{5: again}},
		"told another thing behind":     {two(), whole(9, 3, 6), map[int]do{6: again}},
		"others are unparked":           {two(), whole(9, 3, 6), map[int]do{4: both(unparks(7), unparks(2*me))}},
		"cells of keys are others":      {two(), whole(9, 3, 6), map[int]do{1: both(stores(64+3, uint64(other)), stores(64+me, uint64(one)))}},
		"one has a deadline":            {two(), whole(9, 3, 6), map[int]do{1: func(w *worlds.World) { w.Permits.Until(12, 9, 0) }}},
		"its deadline has come":         {two(), whole(9, 3, 6), map[int]do{3: func(w *worlds.World) { w.Permits.Until(12, 9, 0); w.Clock.Tick(9) }}},
		"itself is queued":              {[]lines.Entry{entry(me, one, 7)}, whole(9, me), nil},
		"itself is between":             {[]lines.Entry{entry(3, one, 7), entry(me, one, 7), entry(2, one, 1)}, whole(9, 3, me, 2), nil},
		"one is queued twice":           {[]lines.Entry{entry(3, one, 7), entry(6, one, 8), entry(3, one, 9)}, whole(9, 3, 6, 3), nil},
		"one is queued by a key beside": {[]lines.Entry{entry(3, neighbour, 7), entry(3, one, 8)}, row(took(entered(lock3, 2), home(), one, some(3), entry(3, neighbour, 7)), unparked(9, 3), ended(freed(lock3))), nil},
	})
}

// P20.1: the table is replaced meanwhile: ahead of line 1, while it enters, or behind it.
func TestTableIsReplaced(t *testing.T) {
	for _, to := range []int{3, 4} {
		p := placeOf(one, uint64(to))
		a := lockOf(p)
		there := row(took(entered(a, uint64(to)), p, one, some(3, 6)), unparked(9, 3, 6), ended(freed(a)))
		turned := row(these(loaded(0, 2), cas(lock3, 0, 1), loaded(0, uint64(to))), freed(lock3))
		checkWays(t, map[string]way{
			"ahead of line 1": {two(), there, map[int]do{1: replaces(to)}},
			"as it enters":    {two(), row(turned, there), map[int]do{2: replaces(to)}},
			"under the lock":  {two(), row(turned, there), map[int]do{3: replaces(to)}},
			"behind line 1":   {two(), whole(9, 3, 6), map[int]do{4: replaces(to)}},
			"within line 2":   {two(), whole(9, 3, 6), map[int]do{5: replaces(to)}},
			"ahead of line 3": {two(), whole(9, 3, 6), map[int]do{6: replaces(to)}},
			"nobody is there": {nil, row(entered(a, uint64(to)), ended(freed(a))), map[int]do{1: replaces(to)}},
		})
	}
	// The table's word is of a table that is not there: nobody is in its queues.
	a := lockOf(placeOf(one, 4))
	checkWays(t, map[string]way{"no such table": {two(), row(entered(a, 4), ended(freed(a))), map[int]do{1: both(ticks(9), stores(0, 4))}}})
}

// contended: steps of who finds a lock that somebody has, sleeps for it once, and then has it.
func contended(a api.Addr) []saw {
	return these(cas(a, 1, 1), called(permits.CaPrepare, myWord), cas(a, 1, 25), called(permits.CaPark, myWord), called(permits.CaPark, myWord), loaded(a, 0), cas(a, 0, 1))
}

// wakesOne: steps of a Free of a lock for which thread 9 waits.
func wakesOne(a api.Addr) []saw {
	return these(add(a, 41, 40), loaded(a, 40), cas(a, 40, 42), cas(a, 42, 0), called(permits.CaUnpark, 19))
}

// P20.1: somebody else has the lock of its bucket as it enters, or waits for it as it goes: lines 1 and 3 take as many steps as an Enter and a Free do.
func TestLockOfTheBucket(t *testing.T) {
	free := both(unparks(myWord), stores(lock3, 0))
	in := row(these(loaded(0, 2)), contended(lock3), these(loaded(0, 2)))
	late := entry(8, one, 1)
	queue := waitsFor(9, lock3)
	rest := row(unparked(9, 3, 6), ended(freed(lock3)))
	checkWays(t, map[string]way{
		"somebody has it":                  {two(), row(took(in, home(), one, some(3, 6)), rest), map[int]do{2: stores(lock3, 1), 6: free}},
		"somebody has it, nobody is there": {nil, row(in, ended(freed(lock3))), map[int]do{2: stores(lock3, 1), 6: free}},
		"somebody comes meanwhile":         {two(), row(took(in, home(), one, some(3, 6, 8)), unparked(9, 3, 6, 8), ended(freed(lock3))), map[int]do{2: stores(lock3, 1), 5: queuesUp(late), 6: free}},
		"all go meanwhile":                 {two(), row(in, ended(freed(lock3))), map[int]do{2: stores(lock3, 1), 5: empties(home()), 6: free}},
		"somebody waits for it":            {two(), row(takes(3, 6), unparked(9, 3, 6), ended(wakesOne(lock3))), map[int]do{6: queue}},
		"somebody waited from line 1 on":   {two(), row(takes(3, 6), unparked(9, 3, 6), ended(wakesOne(lock3))), map[int]do{4: queue}},
		"somebody waits, nobody is there":  {nil, row(entered(lock3, 2), ended(wakesOne(lock3))), map[int]do{4: queue}},
	})
}

// P20.1: of each thread, as who unparks, and as who is unparked, and of keys and tokens of all sorts.
func TestThreadsAndKeys(t *testing.T) {
	for i, key := range []api.Addr{0, 1, 64, 255, 256, 511, 1023, 1024, 1025, 1057, 1120, one, other, 1 << 31, math.MaxUint32} {
		for thread := range 64 {
			first, second, token := (thread+i*5)%64, (thread*3+i)%64, uint64(thread)<<58+uint64(i)
			w := having(t, entry(first, key, math.MaxUint64), entry(first, key+1, 1), entry(second, key, 2))
			p := placeOf(key, 2)
			var left []lines.Entry
			if placeOf(key+1, 2) == p {
				left = append(left, entry(first, key+1, 1))
			}
			way := row(took(entered(lockOf(p), 2), p, key, some(first, second), left...), unparked(token, first, second), ended(freed(lockOf(p))))
			way[2].took.by = thread
			check(t, w, alls.NewAll(thread, key, token), way, nil)
		}
	}
	for _, token := range []uint64{0, 1, 2, 255, 1 << 31, 1<<32 + 1, 1 << 63, math.MaxUint64} {
		w := having(t, two()...)
		tells(77)(w)
		check(t, w, alls.NewAll(me, one, token), whole(token, 3, 6), nil)
	}
}

// P20.1: entries of what is no thread, too, are taken; nobody is unparked by that, and nobody is told anything.
func TestEntriesOfNoThread(t *testing.T) {
	for _, who := range noThreads() {
		w := having(t, entry(3, one, 2), entry(who, one, 1), entry(6, one, 2))
		x := plain()
		for range 3 {
			x.Step(w)
		}
		checkGot(t, 3, x, some(3, who, 6))
		note := notes.Note{Step: 3, Thread: me, Kind: notes.NtTake, Addr: one, Other: who}
		if got := w.Notes.All(); len(got) != 3 || got[1] != note {
			t.Errorf("thread %d: notes %+v", who, got)
		}
		tokens := w.Tokens
		tokens[3], tokens[6] = mine, mine
		through(t, w, x)
		if w.Tokens != tokens || w.Permits.Count() != 2 || w.Cells.Peek(lock3) != 0 || len(w.Tables.Queue(home())) != 0 {
			t.Errorf("thread %d: %d calls, %v are left", who, w.Permits.Count(), w.Tables.Queue(home()))
		}
	}
}

// P20.1: no timer is asked, due or not, and nothing is drawn; what time it is is no matter.
func TestNoTimer(t *testing.T) {
	const greatest uint64 = math.MaxUint64
	for _, timer := range []fairs.Timer{{}, {At: 4, Fired: 2}, {At: 10, Fired: 40}, {At: greatest, Fired: 0}} {
		for _, now := range []uint64{0, 1, 4, 5, 11, 900, greatest - 1, greatest} {
			for _, queued := range [][]lines.Entry{nil, two()} {
				w := having(t, queued...)
				both(ticks(now), sets(home(), timer.At, timer.Fired))(w)
				check(t, w, plain(), wayOf(queued), nil)
				if w.Clock.Left() != 4 || w.Clock.Now() != now || w.Tables.Timer(home()) != timer {
					t.Errorf("at tick %d: %d draws are left, the timer is %+v", now, w.Clock.Left(), w.Tables.Timer(home()))
				}
			}
		}
	}
	// Nor where time goes on meanwhile.
	for step := 1; step <= 6; step++ {
		w := having(t, two()...)
		check(t, w, plain(), whole(9, 3, 6), map[int]do{step: ticks(7)})
	}
}

// P20.1, P20.2: who sleeps has a permit behind its step of line 2, not ahead of it, and so has who does not sleep yet; it is unparked in a step, with the token.
func TestPermits(t *testing.T) {
	for _, steps := range []int{6, 7, 8, 20} {
		for _, until := range []api.Until{{}, {On: true, At: 9}} {
			for _, token := range []uint64{0, 1, 44, math.MaxUint64} {
				w := world(t, 0)
				tells(5)(w)
				var sleepers []*parks.Park
				for _, thread := range []int{3, 8, 6} {
					s := parks.NewPark(thread, one, 7, until, nil)
					for range steps {
						if s.Step(w) {
							t.Fatal("over")
						}
					}
					sleepers = append(sleepers, s)
				}
				x := alls.NewAll(me, one, token)
				for i := range 6 {
					x.Step(w)
					for n, thread := range []int{3, 8, 6} {
						told, want := i >= 3+n, uint64(5)
						if told {
							want = token
						}
						if w.Permits.Asleep(2*thread) != (steps > 6) || steps > 6 && w.Permits.Goes(2*thread, 0) != told || w.Tokens[thread] != want {
							t.Errorf("step %d: thread %d goes on: %v, its token is %d", i+1, thread, w.Permits.Goes(2*thread, 0), w.Tokens[thread])
						}
					}
				}
				for i, s := range sleepers {
					over := s.Step(w)
					if o, got := s.Got(w); !over || o != parks.PaUnparked || got != token {
						t.Errorf("Park %d: over %v, %d, %d", i, over, o, got)
					}
				}
				if x.Step(w); !x.Over() || w.Permits.Park(6) != permits.OuBlocks {
					t.Error("a permit more")
				}
			}
		}
	}
}

// P20.2: a deadline comes while an All has the lock, or is about to: it finds the permit behind that, and ends unparked.
func TestUnparkedThoughLate(t *testing.T) {
	for _, at := range []int{0, 1, 2} {
		for ahead := range 7 {
			w := world(t, 0)
			var sleepers []*parks.Park
			for i, thread := range []int{3, 8, 6} {
				s := parks.NewPark(thread, one, 7, api.Until{On: i == at, At: 1}, nil)
				for range 7 {
					s.Step(w)
				}
				sleepers = append(sleepers, s)
			}
			x := plain()
			// The last step ahead is one of line 2, or one of its Enter's.
			for range ahead {
				x.Step(w)
			}
			w.Clock.Tick(1)
			late := sleepers[at]
			over := late.Step(w)
			for i := 0; !over || !x.Over(); i++ {
				if i > 40 {
					t.Fatal("they go on")
				}
				x.Step(w)
				over = late.Step(w)
			}
			o, token := late.Got(w)
			if want := some(3, 8, 6); o != parks.PaUnparked || token != mine || !slices.Equal(x.Got(), want) || len(w.Tables.Queue(home())) != 0 {
				t.Errorf("behind %d steps: %d, %d, got %v", ahead, o, token, x.Got())
			}
		}
	}
}

// noThreads: numbers that are no thread's.
func noThreads() []int {
	return []int{-1, -2, -64, 64, 65, 128, 1 << 32, -1 << 32, 1<<32 + 5, math.MinInt, math.MaxInt}
}

// P20.1, R3: what is of no thread, of none, and of one that no call made is over, and does nothing.
func TestOverFromTheStart(t *testing.T) {
	w := having(t, two()...)
	w.Clock.Tick(3)
	all := []*alls.All{nil, {}, new(alls.All)}
	for _, thread := range noThreads() {
		all = append(all, alls.NewAll(thread, one, 0), alls.NewAll(thread, one, mine))
	}
	words, before := w.Cells.Words(), looksOf(w)
	for i, x := range all {
		for _, in := range []*worlds.World{w, nil, {}} {
			if !x.Over() || !x.Step(in) || !x.Over() || len(x.Got()) != 0 {
				t.Errorf("%d: over: %v, got %v", i, x.Over(), x.Got())
			}
		}
	}
	if w.Steps() != 0 || !slices.Equal(w.Cells.Words(), words) || !looksOf(w).same(before) {
		t.Error("they do something")
	}
}

// P20.1: one that has just begun is not over, and nobody is taken; in no world it does nothing.
func TestJustBegun(t *testing.T) {
	for _, thread := range []int{0, 1, me, 62, 63} {
		for _, token := range []uint64{0, mine} {
			x := alls.NewAll(thread, one, token)
			for range 5 {
				if x.Over() || x.Step(nil) || len(x.Got()) != 0 {
					t.Errorf("thread %d: over: %v, got %v", thread, x.Over(), x.Got())
				}
			}
		}
	}
}

// P20.1: behind its last step it is over, whatever comes.
func TestOverStays(t *testing.T) {
	w := having(t, two()...)
	x := plain()
	run(t, w, x, whole(9, 3, 6), nil)
	queuesUp(entry(8, one, 1), entry(9, one, 1))(w)
	both(ticks(5), stores(lock3, 1))(w)
	steps := w.Steps()
	for i := range 9 {
		if !x.Step(w) || !x.Step(nil) || !x.Over() || w.Steps() != steps {
			t.Fatalf("over: %v, %d steps", x.Over(), w.Steps()-steps)
		}
		checkGot(t, i, x, some(3, 6))
	}
}

// P20.1: what was told is whoever's: spoilt, it changes neither who is unparked nor what is told later; and so it is with what was told of another All.
func TestToldInNewMemory(t *testing.T) {
	w := having(t, two()...)
	x := plain()
	for range 3 {
		x.Step(w)
	}
	first, second := x.Got(), x.Got()
	first[0], first[1] = 20, 21
	if !slices.Equal(second, some(3, 6)) || cap(first) != 2 || cap(second) != 2 {
		t.Errorf("told %v and %v", first, second)
	}
	for range 2 {
		x.Step(w)
	}
	if w.Tokens[3] != mine || w.Tokens[6] != mine || w.Tokens[20] != 0 || w.Tokens[21] != 0 {
		t.Error("others are unparked")
	}
	queuesUp(entry(8, one, 1))(w)
	x.Step(w)
	y := plain()
	through(t, w, y)
	checkGot(t, 6, x, some(3, 6))
	checkGot(t, 6, y, some(8))
	if !slices.Equal(first, some(20, 21)) || !slices.Equal(second, some(3, 6)) {
		t.Errorf("what was told is %v and %v", first, second)
	}
}

// P20.2: what is not its own stays: other buckets, who is asleep, other tokens, the clock.
func TestNothingElse(t *testing.T) {
	w := having(t, entry(3, one, 7), entry(30, neighbour, 1), entry(31, other, 1), entry(32, 0, 1), entry(6, one, 1), entry(33, 1, 1))
	for thread := range w.Tokens {
		w.Tokens[thread] = uint64(thread) + 1
		w.Permits.Park(2 * thread)
		w.Permits.Park(2*thread + 1)
	}
	check(t, w, plain(), row(took(entered(lock3, 2), home(), one, some(3, 6), entry(30, neighbour, 1)), unparked(9, 3, 6), ended(freed(lock3))), nil)
	for parker := range 128 {
		if w.Permits.Goes(parker, 0) != (parker == 6 || parker == 12) || !w.Permits.Asleep(parker) {
			t.Errorf("parker %d: goes on: %v", parker, w.Permits.Goes(parker, 0))
		}
	}
}

// R3: a world that no call made has no lock to be had: it goes on there; no line panics there.
func TestEmptyWorld(t *testing.T) {
	for steps := range 8 {
		w := having(t, two()...)
		x := plain()
		for range steps {
			x.Step(w)
		}
		var empty worlds.World
		for range 40 {
			x.Step(&empty)
		}
		if steps == 0 && (x.Over() || len(x.Got()) != 0 || empty != (worlds.World{})) {
			t.Error("it has a lock in no cells")
		}
	}
}

// R3: worlds that lack a part: what there is is used.
func TestWorldsThatLackSomething(t *testing.T) {
	w := worlds.World{Cells: cells.New()}
	x := plain()
	for i := range 4 {
		if x.Step(&w) != (i == 3) {
			t.Errorf("step %d: over: %v", i+1, x.Over())
		}
	}
	if len(x.Got()) != 0 || w.Steps() != 4 || w.Cells.Peek(lock3) != 0 {
		t.Errorf("without tables: got %v, %d steps", x.Got(), w.Steps())
	}
	w = worlds.World{Cells: cells.New(), Tables: tables.New(0)}
	w.Tables.Put(home(), two())
	x = plain()
	for i := range 6 {
		if x.Step(&w) != (i == 5) {
			t.Errorf("step %d: over: %v", i+1, x.Over())
		}
	}
	checkGot(t, 6, x, some(3, 6))
	if w.Tokens[3] != mine || w.Tokens[6] != mine || len(w.Tables.Places(3)) != 0 || w.Steps() != 4 {
		t.Errorf("without parkers, notes and a clock: its token is %d", w.Tokens[3])
	}
}

// R1: a world is used in the step that it is handed to, and in no other.
func TestTwoWorlds(t *testing.T) {
	here, there := world(t, 0), having(t, two()...)
	x := plain()
	x.Step(here)
	x.Step(here)
	x.Step(there)
	if there.Steps() != 1 || here.Steps() != 2 || here.Notes.Count() != 0 || there.Notes.Count() != 2 || len(there.Tables.Places(3)) != 0 {
		t.Error("line 1 is not over where it was handed")
	}
	if x.Step(here); here.Tokens[3] != mine || there.Tokens[3] != 0 || here.Permits.Count() != 1 || there.Permits.Count() != 0 {
		t.Error("line 2 is not where it was handed")
	}
	if x.Step(there); there.Tokens[6] != mine || here.Tokens[6] != 0 || here.Permits.Count() != 1 || there.Permits.Count() != 1 {
		t.Error("line 2 is not where it was handed next")
	}
	if !x.Step(here) || here.Cells.Peek(lock3) != 0 || there.Steps() != 2 {
		t.Error("line 3 is not where it was handed")
	}
}
