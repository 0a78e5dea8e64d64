package filters_test

import (
	"math"
	"slices"
	"testing"

	"layby/api"
	"layby/cells"
	"layby/fairs"
	"layby/filters"
	"layby/lines"
	"layby/notes"
	"layby/ones"
	"layby/parks"
	"layby/permits"
	"layby/tables"
	"layby/worlds"
)

// me: who unparks mostly, and its parker of words.
const (
	me     = 5
	myWord = 2*me + 1
)

// Keys: one and its neighbour are in bucket 3 of the table of 2 bits, the other one is in bucket 1.
const (
	one       api.Addr = 1152
	neighbour api.Addr = 1168
	other     api.Addr = 1156
)

// Locks of these two buckets.
const (
	lock3 api.Addr = 263
	lock1 api.Addr = 261
)

// mine: the token of who unparks.
const mine = ones.Token(9)

// bitsOf a word, by plain numbers.
func bitsOf(word uint64) int {
	for bits := 2; bits <= 8; bits++ {
		if word == uint64(bits) {
			return bits
		}
	}
	return 2
}

// placeOf a key by a word, by plain numbers.
func placeOf(key api.Addr, word uint64) tables.Place {
	bits := bitsOf(word)
	return tables.Place{Bits: bits, Bucket: int(uint64(key) * 11400714819323198485 / (1 << (64 - bits)))}
}

// lockOf a place, by plain numbers.
func lockOf(p tables.Place) api.Addr {
	return api.Addr(256 + 1<<p.Bits + p.Bucket)
}

// bucket of a table.
func bucket(bits, n int) tables.Place {
	return tables.Place{Bits: bits, Bucket: n}
}

// home of one and its neighbour, as worlds begin.
func home() tables.Place { return bucket(2, 3) }

// The keys stand as it is said of them.
func TestKeysAreApart(t *testing.T) {
	for key, want := range map[api.Addr]tables.Place{one: home(), neighbour: home(), other: bucket(2, 1)} {
		if got := placeOf(key, 2); got != want {
			t.Errorf("key %d: %+v", key, got)
		}
	}
	if lockOf(placeOf(one, 2)) != lock3 || lockOf(placeOf(other, 2)) != lock1 || placeOf(one, 4) == placeOf(neighbour, 4) {
		t.Error("locks, or a greater table")
	}
}

// draws of worlds, brought to 5 at most: 3, 1, 4, 5.
func draws() []uint64 { return []uint64{3, 7, 4, 11} }

// world of a Spin, in which some words stand at first; no step was made.
func world(t *testing.T, spin int, l ...cells.Word) *worlds.World {
	t.Helper()
	w, e := worlds.New(worlds.Config{Spin: spin, Most: 5, Draws: draws()})
	if w == nil || e != 0 {
		t.Fatalf("no world of Spin %d: %d", spin, e)
	}
	w.Cells = cells.New(append([]cells.Word{{Addr: 0, Value: 2}}, l...)...)
	return w
}

// entry of a thread.
func entry(thread int, key api.Addr, token uint64) lines.Entry {
	return lines.Entry{Thread: thread, Key: key, Token: token}
}

// queuesUp entries, each where its key hashes to.
func queuesUp(l ...lines.Entry) do {
	return func(w *worlds.World) {
		for _, e := range l {
			p := placeOf(e.Key, w.Cells.Peek(0))
			w.Tables.Put(p, append(w.Tables.Queue(p), e))
		}
	}
}

// having: a world where some are queued, as if they had parked.
func having(t *testing.T, l ...lines.Entry) *worlds.World {
	t.Helper()
	w := world(t, 0)
	queuesUp(l...)(w)
	return w
}

// looks: what of a world a Some may change, beside cells and parkers.
type looks struct {
	queues map[tables.Place][]lines.Entry // those that are not empty
	timers map[tables.Place]fairs.Timer
	notes  []notes.Note
	tokens [64]uint64
	left   int // draws
	tick   uint64
	spin   int
}

// looksOf a world.
func looksOf(w *worlds.World) looks {
	l := looks{
		queues: map[tables.Place][]lines.Entry{}, timers: map[tables.Place]fairs.Timer{},
		notes: w.Notes.All(), tokens: w.Tokens, left: w.Clock.Left(), tick: w.Clock.Now(), spin: w.Spin,
	}
	for bits := 2; bits <= 4; bits++ {
		for n := range 1 << bits {
			p := bucket(bits, n)
			if queue := w.Tables.Queue(p); len(queue) > 0 {
				l.queues[p] = queue
			}
			if w.Tables.Has(bits) {
				l.timers[p] = w.Tables.Timer(p)
			}
		}
	}
	return l
}

// same looks?
func (l looks) same(as looks) bool {
	if len(l.queues) != len(as.queues) || len(l.timers) != len(as.timers) {
		return false
	}
	for p, queue := range l.queues {
		if !slices.Equal(queue, as.queues[p]) {
			return false
		}
	}
	for p, timer := range l.timers {
		if timer != as.timers[p] {
			return false
		}
	}
	return slices.Equal(l.notes, as.notes) && l.tokens == as.tokens && l.left == as.left && l.tick == as.tick && l.spin == as.spin
}

// saw: what a step is to have done, by plain numbers.
type saw struct {
	access api.Access   // of a step that is an access
	call   permits.Call // of a step that is a call
	over   bool         // behind it it is over

	took   *taking
	tokens map[int]uint64 // that it sets
}

// taking of some of a key: what Got tells from it on, where they were, and who is left there.
type taking struct {
	by      int // the thread that takes
	place   tables.Place
	key     api.Addr
	result  ones.Result
	threads []int
	left    []lines.Entry
	timer   *fairs.Timer // of the bucket, if it fires
}

// Accesses and calls.

func loaded(a api.Addr, found uint64) saw {
	return saw{access: api.Access{Kind: api.AcLoad, Addr: a, Was: found, Is: found}}
}

func cas(a api.Addr, was, is uint64) saw {
	return saw{access: api.Access{Kind: api.AcCAS, Addr: a, Was: was, Is: is}}
}

func add(a api.Addr, was, is uint64) saw {
	return saw{access: api.Access{Kind: api.AcAdd, Addr: a, Was: was, Is: is}}
}

func called(k permits.CallKind, parker int) saw {
	return saw{call: permits.Call{Kind: k, Parker: parker}}
}

func nothing() saw { return saw{} }

// Rows of steps.

// row of steps, one behind the other.
func row(parts ...[]saw) []saw { return slices.Concat(parts...) }

// these steps.
func these(s ...saw) []saw { return s }

// ended: behind the last one of these steps it is over.
func ended(steps []saw) []saw {
	out := slices.Clone(steps)
	out[len(out)-1].over = true
	return out
}

// entered a bucket by the table's word (line 1).
func entered(a api.Addr, word uint64) []saw {
	return these(loaded(0, word), cas(a, 0, 1), loaded(0, word))
}

// freed a lock for which nobody waits (line 4).
func freed(a api.Addr) []saw { return these(add(a, 1, 0)) }

// took: with the last one of these steps some threads are taken out of a place's queue, at a key; is another one of the key left there, and who is?
func took(steps []saw, p tables.Place, key api.Addr, threads []int, more bool, left ...lines.Entry) []saw {
	out := slices.Clone(steps)
	result := ones.Result{Many: len(threads), More: more, Thread: -1}
	if len(threads) > 0 {
		result.Thread = threads[0]
	}
	out[len(out)-1].took = &taking{by: me, place: p, key: key, result: result, threads: threads, left: left}
	return out
}

// none: with the last one of these steps it is told that nobody is taken.
func none(steps []saw, more bool) []saw {
	return took(steps, home(), one, nil, more)
}

// fired: with the last one of these steps the timer of its place fires, too, and is another one then.
func fired(steps []saw, at, fired uint64) []saw {
	out := slices.Clone(steps)
	last := *out[len(out)-1].took
	last.result.Fair, last.timer = true, &fairs.Timer{At: at, Fired: fired}
	out[len(out)-1].took = &last
	return out
}

// unparked threads, a step each, with a token (line 3).
func unparked(token uint64, threads ...int) []saw {
	var out []saw
	for _, who := range threads {
		s := called(permits.CaUnpark, 2*who)
		s.tokens = map[int]uint64{who: token}
		out = append(out, s)
	}
	return out
}

// some threads, as a list.
func some(threads ...int) []int { return threads }

// takes threads that are at one, and nobody else in its bucket, in a world as at first (line 1).
func takes(threads ...int) []saw {
	return took(entered(lock3, 2), home(), one, threads, false)
}

// whole: a Some that takes threads that are at one, and nobody else in its bucket, with a token.
func whole(token uint64, threads ...int) []saw {
	return row(takes(threads...), unparked(token, threads...), ended(freed(lock3)))
}

// nobody: a Some that takes nobody; is somebody at one?
func nobody(more bool) []saw {
	return row(none(entered(lock3, 2), more), ended(freed(lock3)))
}

// change of what a world looks like that a step is to make.
func (s saw) change(l *looks, steps int) {
	if k := s.took; k != nil && len(k.threads) > 0 {
		if l.queues[k.place] = k.left; len(k.left) == 0 {
			delete(l.queues, k.place)
		}
		for _, who := range k.threads {
			l.notes = append(l.notes, notes.Note{Step: steps, Thread: k.by, Kind: notes.NtPick, Addr: k.key, Other: who})
		}
		if k.timer != nil {
			l.timers[k.place] = *k.timer
			l.left = max(l.left-1, 0)
		}
	}
	for thread, token := range s.tokens {
		l.tokens[thread] = token
	}
}

// checkSaw: that the next step of a Some does just that.
func checkSaw(t *testing.T, i int, x *filters.Some, w *worlds.World, want saw) {
	t.Helper()
	accesses, calls, all := w.Cells.Count(), w.Permits.Count(), looksOf(w)
	if over := x.Step(w); over != want.over || x.Over() != want.over {
		t.Errorf("step %d: %v, Over = %v", i, over, x.Over())
	}
	if want.access != (api.Access{}) {
		accesses++
		if got := w.Cells.Last(); got != want.access {
			t.Errorf("step %d: the access %+v, want %+v", i, got, want.access)
		}
	}
	if want.call != (permits.Call{}) {
		calls++
		if got := w.Permits.Last(); got != want.call {
			t.Errorf("step %d: the call %+v, want %+v", i, got, want.call)
		}
	}
	if w.Cells.Count() != accesses || w.Permits.Count() != calls {
		t.Errorf("step %d: %d accesses, %d calls; want %d, %d", i, w.Cells.Count(), w.Permits.Count(), accesses, calls)
	}
	want.change(&all, accesses+calls)
	if got := looksOf(w); !got.same(all) {
		t.Errorf("step %d: %+v, want %+v", i, got, all)
	}
}

// empty is what is got where nothing is told.
func empty() ones.Result { return ones.Result{Thread: -1} }

// checkGot: that it tells of this result and these threads, in memory of its own, with no room behind.
func checkGot(t *testing.T, i int, x *filters.Some, want ones.Result, threads []int) {
	t.Helper()
	for range 2 {
		r, got := x.Got()
		if r != want || !slices.Equal(got, threads) || cap(got) != len(got) {
			t.Errorf("step %d: got %+v, %v, room for %d; want %+v, %v", i, r, got, cap(got), want, threads)
		}
		for i := range got {
			got[i] = -9
		}
	}
}

// do: something of somebody else, ahead of a step.
type do func(w *worlds.World)

// stores at an address.
func stores(a api.Addr, v uint64) do {
	return func(w *worlds.World) { w.Cells.Store(a, v) }
}

// both, one behind the other.
func both(first, second do) do {
	return func(w *worlds.World) {
		first(w)
		second(w)
	}
}

// unparks a parker.
func unparks(parker int) do {
	return func(w *worlds.World) { w.Permits.Unpark(parker) }
}

// ticks of the clock.
func ticks(n uint64) do {
	return func(w *worlds.World) { w.Clock.Tick(n) }
}

// tells all threads something.
func tells(token uint64) do {
	return func(w *worlds.World) {
		for thread := range w.Tokens {
			w.Tokens[thread] = token
		}
	}
}

// empties a bucket's queue.
func empties(p tables.Place) do {
	return func(w *worlds.World) { w.Tables.Put(p, nil) }
}

// sets a place's timer.
func sets(p tables.Place, at, fired uint64) do {
	return func(w *worlds.World) { w.Tables.PutTimer(p, fairs.Timer{At: at, Fired: fired}) }
}

// replaces the table that counts by a greater one.
func replaces(to int) do {
	return func(w *worlds.World) {
		w.Tables.Grow(bitsOf(w.Cells.Peek(0)), to, w.Clock.Now())
		w.Cells.Store(0, uint64(to))
	}
}

// waitsFor a lock, that somebody has: a thread, alone.
func waitsFor(thread int, a api.Addr) do {
	return func(w *worlds.World) {
		w.Links.Push(thread, -1)
		w.Cells.Store(a, 4*uint64(thread+1)+1)
	}
}

// run a row of steps, where somebody else does something ahead of some of them: what was taken in the end.
func run(t *testing.T, w *worlds.World, x *filters.Some, way []saw, ahead map[int]do) taking {
	t.Helper()
	if x.Over() {
		t.Error("over ahead of its first step")
	}
	told := taking{result: empty()}
	for i, s := range way {
		if act := ahead[i+1]; act != nil {
			act(w)
		}
		if x.Step(nil) || x.Over() {
			t.Error("a step in no world")
		}
		checkGot(t, i+1, x, told.result, told.threads)
		checkSaw(t, i+1, x, w, s)
		if s.took != nil {
			told = *s.took
		}
	}
	checkGot(t, len(way)+1, x, told.result, told.threads)
	return told
}

// checkOver: that it is, and does nothing, whatever changes.
func checkOver(t *testing.T, w *worlds.World, x *filters.Some, told taking) {
	t.Helper()
	for i := range 3 {
		w.Cells.Store(0, uint64(i+1))
		queuesUp(entry(40+i, one, yes), entry(50+i, other, yes))(w)
		checkSaw(t, i, x, w, saw{over: true})
		if !x.Step(nil) || !x.Step(&worlds.World{}) || !x.Over() {
			t.Error("not over in no world, or in another one")
		}
		checkGot(t, i, x, told.result, told.threads)
	}
}

// check that a Some does just that; if the last step says so, it is over.
func check(t *testing.T, w *worlds.World, x *filters.Some, way []saw, ahead map[int]do) {
	t.Helper()
	told := run(t, w, x, way, ahead)
	if way[len(way)-1].over {
		checkOver(t, w, x, told)
	}
}

// through an operation: how many steps that takes.
func through(t *testing.T, w *worlds.World, x parks.Part) int {
	t.Helper()
	for n := range 1000 {
		if x.Step(w) {
			return n + 1
		}
	}
	t.Fatal("it goes on for ever")
	return 0
}

// Tokens by which threads park, as chooses chooses: by their remainder, divided by 4.
const (
	yes  uint64 = 4 // it is taken
	no   uint64 = 5 // it is skipped
	stop uint64 = 6 // no more are asked
	odd  uint64 = 7 // as stop, by another choice
)

// chooses: a filter.
type chooses struct{}

func (chooses) Choose(token uint64) lines.Choice {
	return [...]lines.Choice{lines.ChTake, lines.ChSkip, lines.ChStop, 77}[token%4]
}

// plain Some at one.
func plain() *filters.Some { return filters.NewSome(me, one, chooses{}, mine) }

// only the tokens 1: the example's filter.
type onlyOnes struct{}

func (onlyOnes) Choose(token uint64) lines.Choice {
	if token == 1 {
		return lines.ChTake
	}
	return lines.ChSkip
}

// parked: a thread that parks at a key, with a token, by so many steps as it takes till it sleeps.
func parked(t *testing.T, w *worlds.World, thread int, key api.Addr, token uint64) *parks.Park {
	t.Helper()
	x := parks.NewPark(thread, key, token, api.Until{}, nil)
	for range 7 {
		if x.Step(w) {
			t.Fatal("it does not sleep")
		}
	}
	return x
}

// The chapter's example.
func TestExample(t *testing.T) {
	w, e := worlds.New(worlds.Config{})
	if e != 0 {
		t.Fatal(e)
	}
	sleepers := []*parks.Park{parked(t, w, 3, 1152, 1), parked(t, w, 5, 1152, 2), parked(t, w, 7, 1152, 1)}
	steps, x := w.Steps(), filters.NewSome(4, 1152, onlyOnes{}, ones.Token(9))
	load, slept := api.Access{Kind: api.AcLoad, Addr: 0, Was: 2, Is: 2}, permits.Call{Kind: permits.CaPark, Parker: 14}
	for i, want := range []struct {
		access api.Access
		call   permits.Call
	}{
		{load, slept}, {api.Access{Kind: api.AcCAS, Addr: 263, Was: 0, Is: 1}, slept}, {load, slept},
		{load, permits.Call{Kind: permits.CaUnpark, Parker: 6}}, {load, permits.Call{Kind: permits.CaUnpark, Parker: 14}},
		{api.Access{Kind: api.AcAdd, Addr: 263, Was: 1, Is: 0}, permits.Call{Kind: permits.CaUnpark, Parker: 14}},
	} {
		if over := x.Step(w); over != (i == 5) || w.Cells.Last() != want.access || w.Permits.Last() != want.call || w.Steps() != steps+i+1 {
			t.Errorf("step %d: %+v, %+v, %d steps", i+1, w.Cells.Last(), w.Permits.Last(), w.Steps()-steps)
		}
	}
	checkGot(t, 6, x, ones.Result{Many: 2, More: true, Thread: 3}, some(3, 7))
	want := []notes.Note{{Step: steps + 3, Thread: 4, Kind: notes.NtPick, Addr: 1152, Other: 3}, {Step: steps + 3, Thread: 4, Kind: notes.NtPick, Addr: 1152, Other: 7}}
	if got := w.Notes.Since(3); !slices.Equal(got, want) {
		t.Errorf("notes %+v", got)
	}
	for i, s := range sleepers {
		over := s.Step(w)
		if o, token := s.Got(w); over != (i != 1) || i != 1 && (o != parks.PaUnparked || token != 9) || i == 1 && !w.Permits.Asleep(10) {
			t.Errorf("over: %v, %d, %d", over, o, token)
		}
	}
	if got := w.Tables.Queue(home()); !slices.Equal(got, []lines.Entry{entry(5, 1152, 2)}) {
		t.Errorf("left are %v", got)
	}
}

// chosen of a queue by a Some at one that chooses, by plain words: whose entries, whether another one of the key is left, and who is.
func chosen(queue []lines.Entry) (threads []int, more bool, left []lines.Entry) {
	stopped := false
	for _, e := range queue {
		asked := e.Key == one && !stopped
		if asked && e.Token%4 == 0 {
			threads = append(threads, e.Thread)
			continue
		}
		stopped = stopped || asked && e.Token%4 != 1
		more = more || e.Key == one
		left = append(left, e)
	}
	return threads, more, left
}

// wayOf a Some at one that chooses, where its bucket has a queue, as worlds begin.
func wayOf(queue []lines.Entry) []saw {
	threads, more, left := chosen(queue)
	return row(took(entered(lock3, 2), home(), one, threads, more, left...), unparked(9, threads...), ended(freed(lock3)))
}

// P21.1, P21.2: all short queues of the key's, by all choices, and others', of threads that are each there once, or twice: just those are taken whom the filter chooses; who is skipped, who stands behind a stop, and others stay, in their order.
func TestQueues(t *testing.T) {
	kinds := []lines.Entry{entry(0, one, yes), entry(0, one, no), entry(0, one, stop), entry(0, one, odd), entry(0, neighbour, stop), entry(0, other, yes)}
	for size := range 5 {
		count := 1
		for range size {
			count *= len(kinds)
		}
		for number := range count {
			for _, turn := range []int{1, 2, 30} {
				var queue []lines.Entry
				for i, n := 0, number; i < size; i++ {
					e := kinds[n%len(kinds)]
					e.Thread = (60-i*7)%turn + i/turn*turn
					queue = append(queue, e)
					n /= len(kinds)
				}
				w := world(t, 0)
				w.Tables.Put(home(), queue)
				w.Tables.Put(bucket(2, 1), []lines.Entry{entry(61, one, yes), entry(62, other, yes)})
				check(t, w, plain(), wayOf(queue), nil)
			}
		}
	}
}

// P21.1: long queues: of all threads, rising, falling, and mixed, with others of the bucket at each place, or nowhere, and skipped ones; some stop.
func TestLongQueues(t *testing.T) {
	for _, by := range []int{1, 63, 37, 11} {
		for _, every := range []int{2, 3, 5, 64} {
			for _, at := range []int{0, 1, 31, 63, 64} {
				var queue []lines.Entry
				for i := range 64 {
					e := entry(i*by%64, one, yes+8*uint64(i))
					switch i % every {
					case every - 1:
						e.Key = neighbour
					case 2:
						e.Token = no
					}
					queue = append(queue, e)
				}
				if at < len(queue) {
					queue[at].Token = stop
				}
				check(t, having(t, queue...), plain(), wayOf(queue), nil)
			}
		}
	}
	// More entries than there are threads.
	var queue []lines.Entry
	for i := range 300 {
		queue = append(queue, entry(i%64, one, yes+uint64(i%3)/2))
	}
	check(t, having(t, queue...), plain(), wayOf(queue), nil)
}

// rows of choices, of a length.
func rows(length int) [][]lines.Choice {
	if length == 0 {
		return [][]lines.Choice{nil}
	}
	var out [][]lines.Choice
	for _, row := range rows(length - 1) {
		for _, c := range []lines.Choice{lines.ChTake, lines.ChSkip, lines.ChStop, 3, 255} {
			out = append(out, append(slices.Clip(row), c))
		}
	}
	return out
}

// chooser: a filter whose choices come in a row, whatever it is asked. It keeps by which tokens it was asked.
type chooser struct {
	t     *testing.T
	w     *worlds.World
	row   []lines.Choice
	asked []uint64
}

func (f *chooser) Choose(token uint64) lines.Choice {
	// It is asked as line 1 is over, under the lock, ahead of all that comes of it.
	if f.w.Steps() != 3 || f.w.Cells.Peek(lock3) != 1 || f.w.Notes.Count() != 0 || f.w.Clock.Left() != 4 {
		f.t.Errorf("asked by %d, behind %d steps, %d notes", token, f.w.Steps(), f.w.Notes.Count())
	}
	f.asked = append(f.asked, token)
	if len(f.asked) > len(f.row) {
		return lines.ChStop
	}
	return f.row[len(f.asked)-1]
}

// P21.1: all short rows of choices: the filter is asked by the token of each entry of the key, the oldest one first, once each, till it stops; of others it is not asked.
func TestChoices(t *testing.T) {
	for size := range 6 {
		for _, r := range rows(size) {
			queue := []lines.Entry{entry(20, neighbour, 9)}
			var asked []uint64
			var threads []int
			left, more, stopped := slices.Clone(queue), false, false
			for i, c := range r {
				// Two of them by one token.
				e, beside := entry(30-i, one, uint64(i/2)), entry(40+i, neighbour, uint64(i))
				queue = append(queue, e, beside)
				if !stopped {
					asked = append(asked, e.Token)
				}
				if !stopped && c == lines.ChTake {
					threads, left = append(threads, 30-i), append(left, beside)
					continue
				}
				left, more, stopped = append(left, e, beside), true, stopped || c != lines.ChSkip
			}
			w := having(t, queue...)
			w.Clock.Tick(8)
			f := &chooser{t: t, w: w, row: r}
			in := took(entered(lock3, 2), home(), one, threads, more, left...)
			if len(threads) > 0 {
				in = fired(in, 11, 8)
			}
			check(t, w, filters.NewSome(me, one, f, mine), row(in, unparked(9, threads...), ended(freed(lock3))), nil)
			if !slices.Equal(f.asked, asked) {
				t.Errorf("%v: asked by %v, want %v", r, f.asked, asked)
			}
		}
	}
}

// P21.1: a filter is asked by tokens as they are, of all sizes.
func TestTokensOfAllSizes(t *testing.T) {
	for _, token := range []uint64{0, 1, 2, 3, 255, 256, 1 << 31, 1 << 32, 1<<32 + 1, 1 << 63, math.MaxUint64 - 1, math.MaxUint64} {
		w := having(t, entry(3, one, token), entry(8, one, token+1), entry(6, one, token-1))
		f := &chooser{t: t, w: w, row: []lines.Choice{lines.ChTake, lines.ChSkip, lines.ChTake}}
		left := entry(8, one, token+1)
		check(t, w, filters.NewSome(me, one, f, mine), row(took(entered(lock3, 2), home(), one, some(3, 6), true, left), unparked(9, 3, 6), ended(freed(lock3))), nil)
		if !slices.Equal(f.asked, []uint64{token, token + 1, token - 1}) {
			t.Errorf("%d: asked by %v", token, f.asked)
		}
	}
}

// P21.1: it is asked as far as it comes, and no further: not ahead of the lock; where the lock was another table's, under the one that counts.
func TestFilterAskedAsFarAsItComes(t *testing.T) {
	w := having(t, two()...)
	f := &chooser{t: t, w: w}
	x := filters.NewSome(me, one, f, mine)
	w.Cells.Store(lock3, 1)
	for range 9 {
		if x.Step(w) || len(f.asked) != 0 {
			t.Fatalf("without the lock: %v", f.asked)
		}
	}
	checkGot(t, 9, x, empty(), nil)

	w = having(t, two()...)
	x = filters.NewSome(me, one, asker(func() {
		if w.Steps() != 8 || w.Cells.Peek(lock3) != 0 || w.Cells.Peek(lockOf(placeOf(one, 3))) != 1 {
			t.Errorf("asked behind %d steps", w.Steps())
		}
	}), mine)
	x.Step(w)
	x.Step(w)
	replaces(3)(w)
	through(t, w, x)
	checkGot(t, 10, x, ones.Result{Many: 2, Thread: 3}, some(3, 6))
}

// asker: a filter that takes all, and looks around.
type asker func()

func (f asker) Choose(uint64) lines.Choice {
	f()
	return lines.ChTake
}

// P21.1: without a filter nobody is taken; who is there stays, and is told of by More.
func TestNoFilter(t *testing.T) {
	for _, queue := range [][]lines.Entry{nil, two(), {entry(7, neighbour, yes)}, {entry(7, neighbour, yes), entry(3, one, yes)}} {
		more := slices.ContainsFunc(queue, func(e lines.Entry) bool { return e.Key == one })
		for _, tick := range []uint64{0, 9} {
			w := having(t, queue...)
			w.Clock.Tick(tick)
			check(t, w, filters.NewSome(me, one, nil, mine), nobody(more), nil)
		}
	}
}

// P21.1, P21.2: one Some behind the other: who was skipped, or stood behind a stop, is there for the next one, in order.
func TestOneBehindTheOther(t *testing.T) {
	w := having(t, entry(7, neighbour, 4), entry(3, one, 10), entry(9, one, 20), entry(8, neighbour, 4), entry(2, one, 10), entry(6, other, 6), entry(5, one, 30), entry(1, one, 10))
	for i, c := range []struct {
		take, stop uint64
		threads    []int
		more       bool
	}{
		{20, 10, nil, true}, {10, 30, some(3, 2), true}, {10, 20, nil, true}, {30, 10, some(5), true}, {10, 99, some(1), true}, {10, 99, nil, true}, {20, 99, some(9), false}, {20, 99, nil, false},
	} {
		x, calls := filters.NewSome(me, one, byTokens{c.take, c.stop}, ones.Token(i)), w.Permits.Count()
		n := through(t, w, x)
		r := ones.Result{Many: len(c.threads), More: c.more, Thread: -1}
		if len(c.threads) > 0 {
			r.Thread = c.threads[0]
		}
		checkGot(t, i, x, r, c.threads)
		if n != 4+len(c.threads) || w.Permits.Count() != calls+len(c.threads) {
			t.Errorf("%d: %d steps, %d calls", i, n, w.Permits.Count()-calls)
		}
		for _, who := range c.threads {
			if w.Tokens[who] != uint64(i) {
				t.Errorf("thread %d was told %d", who, w.Tokens[who])
			}
		}
	}
	if got := w.Tables.Queue(home()); !slices.Equal(got, []lines.Entry{entry(7, neighbour, 4), entry(8, neighbour, 4)}) {
		t.Errorf("left are %v", got)
	}
	if got := w.Tables.Queue(bucket(2, 1)); !slices.Equal(got, []lines.Entry{entry(6, other, 6)}) {
		t.Errorf("elsewhere are %v", got)
	}
}

// byTokens: a filter that takes one token, and stops at another one.
type byTokens struct{ take, stop uint64 }

func (f byTokens) Choose(token uint64) lines.Choice {
	switch token {
	case f.take:
		return lines.ChTake
	case f.stop:
		return lines.ChStop
	}
	return lines.ChSkip
}

// way of a Some at one, in a world where some are queued, with what somebody else does ahead of some steps.
type way struct {
	queued []lines.Entry
	steps  []saw
	ahead  map[int]do
}

// checkWays of plain ones: in the end no lock is had.
func checkWays(t *testing.T, ways map[string]way) {
	t.Helper()
	for name, c := range ways {
		t.Run(name, func(t *testing.T) {
			w := having(t, c.queued...)
			x := plain()
			told := run(t, w, x, c.steps, c.ahead)
			for _, word := range w.Cells.Words() {
				if word.Addr >= 256 {
					t.Errorf("at %d stands %d", word.Addr, word.Value)
				}
			}
			checkOver(t, w, x, told)
		})
	}
}

// two threads, 3 and 6, at one: both are taken.
func two() []lines.Entry { return []lines.Entry{entry(3, one, yes), entry(6, one, yes+8)} }

// skipped: a thread more, that is not taken.
func skipped() lines.Entry { return entry(10, one, no) }

// P21.1: who is in the queue as line 1 is over counts: not who came, or went, ahead of that, or behind it.
func TestMeanwhile(t *testing.T) {
	late, again := entry(8, one, yes), both(unparks(6), func(w *worlds.World) { w.Tokens[3], w.Tokens[6] = 50, 60 })
	beside := []lines.Entry{entry(9, neighbour, yes), entry(3, one, yes), skipped(), entry(6, one, yes), entry(11, one, stop), entry(12, one, yes)}
	mixed := row(took(entered(lock3, 2), home(), one, some(3, 6), true, beside[0], beside[2], beside[4], beside[5]), unparked(9, 3, 6), ended(freed(lock3)))
	checkWays(t, map[string]way{
		"nothing":                       {two(), whole(9, 3, 6), nil},
		"others are beside":             {beside, mixed, nil},
		"somebody comes to the key":     {two(), whole(9, 3, 6, 8), map[int]do{3: queuesUp(late)}},
		"a skipped one comes":           {two(), row(took(entered(lock3, 2), home(), one, some(3, 6), true, skipped()), unparked(9, 3, 6), ended(freed(lock3))), map[int]do{3: queuesUp(skipped())}},
		"a skipped one comes too late":  {two(), whole(9, 3, 6), map[int]do{4: queuesUp(skipped())}},
		"somebody comes elsewhere":      {two(), whole(9, 3, 6), map[int]do{3: queuesUp(entry(8, other, yes))}},
		"somebody comes too late":       {two(), whole(9, 3, 6), map[int]do{4: queuesUp(late)}},
		"somebody comes as some go on":  {two(), whole(9, 3, 6), map[int]do{5: queuesUp(late)}},
		"somebody comes to nobody":      {nil, whole(9, 8), map[int]do{3: queuesUp(late)}},
		"too late, to nobody":           {nil, nobody(false), map[int]do{4: queuesUp(late)}},
		"only skipped ones":             {[]lines.Entry{skipped(), skipped()}, nobody(true), nil},
		"only one that stops":           {[]lines.Entry{entry(3, one, stop), late}, nobody(true), nil},
		"all go":                        {two(), nobody(false), map[int]do{3: empties(home())}},
		"others come in their place":    {two(), whole(9, 8), map[int]do{3: both(empties(home()), queuesUp(late))}},
		"all go, too late":              {beside, mixed, map[int]do{4: empties(home())}},
		"they come back":                {two(), whole(9, 3, 6), map[int]do{4: queuesUp(two()...)}},
		"one comes back between":        {two(), whole(9, 3, 6), map[int]do{5: queuesUp(two()[:1]...)}},
		"one is unparked, too":          {two(), whole(9, 3, 6), map[int]do{2: unparks(6)}},
		"one is unparked ahead of it":   {two(), whole(9, 3, 6), map[int]do{4: again}},
		"told another thing between":    {two(), whole(9, 3, 6), map[int]do{5: again}},
		"told another thing behind":     {two(), whole(9, 3, 6), map[int]do{6: again}},
		"others are unparked":           {two(), whole(9, 3, 6), map[int]do{4: both(unparks(7), unparks(2*me))}},
		"cells of keys are others":      {two(), whole(9, 3, 6), map[int]do{1: both(stores(64+3, uint64(other)), stores(64+me, uint64(one)))}},
		"one has a deadline":            {two(), whole(9, 3, 6), map[int]do{1: func(w *worlds.World) { w.Permits.Until(12, 9, 0) }}},
		"itself is queued":              {[]lines.Entry{entry(me, one, yes)}, whole(9, me), nil},
		"itself is between":             {[]lines.Entry{entry(3, one, yes), entry(me, one, yes), entry(2, one, yes)}, whole(9, 3, me, 2), nil},
		"one is queued twice":           {[]lines.Entry{entry(3, one, yes), entry(6, one, yes), entry(3, one, yes)}, whole(9, 3, 6, 3), nil},
		"one of two entries is taken":   {[]lines.Entry{entry(3, one, no), entry(3, one, yes)}, row(took(entered(lock3, 2), home(), one, some(3), true, entry(3, one, no)), unparked(9, 3), ended(freed(lock3))), nil},
		"one is queued by a key beside": {[]lines.Entry{entry(3, neighbour, yes), entry(3, one, yes)}, row(took(entered(lock3, 2), home(), one, some(3), false, entry(3, neighbour, yes)), unparked(9, 3), ended(freed(lock3))), nil},
	})
}

// P21.1: the table is replaced meanwhile: ahead of line 1, while it enters, or behind it.
func TestTableIsReplaced(t *testing.T) {
	all := append(two(), skipped())
	for _, to := range []int{3, 4} {
		p := placeOf(one, uint64(to))
		a := lockOf(p)
		there := row(took(entered(a, uint64(to)), p, one, some(3, 6), true, skipped()), unparked(9, 3, 6), ended(freed(a)))
		turned := row(these(loaded(0, 2), cas(lock3, 0, 1), loaded(0, uint64(to))), freed(lock3))
		here := wayOf(all)
		checkWays(t, map[string]way{
			"ahead of line 1": {all, there, map[int]do{1: replaces(to)}},
			"as it enters":    {all, row(turned, there), map[int]do{2: replaces(to)}},
			"under the lock":  {all, row(turned, there), map[int]do{3: replaces(to)}},
			"behind line 1":   {all, here, map[int]do{4: replaces(to)}},
			"within line 3":   {all, here, map[int]do{5: replaces(to)}},
			"ahead of line 4": {all, here, map[int]do{6: replaces(to)}},
			"nobody is there": {nil, row(none(entered(a, uint64(to)), false), ended(freed(a))), map[int]do{1: replaces(to)}},
			"nobody is taken": {[]lines.Entry{skipped()}, row(none(entered(a, uint64(to)), true), ended(freed(a))), map[int]do{1: replaces(to)}},
		})
	}
	// The table's word is of a table that is not there: nobody is in its queues.
	a := lockOf(placeOf(one, 4))
	checkWays(t, map[string]way{"no such table": {all, row(none(entered(a, 4), false), ended(freed(a))), map[int]do{1: both(ticks(9), stores(0, 4))}}})
}

// contended: steps of who finds a lock that somebody has, sleeps for it once, and then has it.
func contended(a api.Addr) []saw {
	return these(cas(a, 1, 1), called(permits.CaPrepare, myWord), cas(a, 1, 25), called(permits.CaPark, myWord), called(permits.CaPark, myWord), loaded(a, 0), cas(a, 0, 1))
}

// wakesOne: steps of a Free of a lock for which thread 9 waits.
func wakesOne(a api.Addr) []saw {
	return these(add(a, 41, 40), loaded(a, 40), cas(a, 40, 42), cas(a, 42, 0), called(permits.CaUnpark, 19))
}

// P21.1: somebody else has the lock of its bucket as it enters, or waits for it as it goes: lines 1 and 4 take as many steps as an Enter and a Free do.
func TestLockOfTheBucket(t *testing.T) {
	free := both(unparks(myWord), stores(lock3, 0))
	in := row(these(loaded(0, 2)), contended(lock3), these(loaded(0, 2)))
	late := entry(8, one, yes)
	queue := waitsFor(9, lock3)
	rest := row(unparked(9, 3, 6), ended(freed(lock3)))
	checkWays(t, map[string]way{
		"somebody has it":                  {two(), row(took(in, home(), one, some(3, 6), false), rest), map[int]do{2: stores(lock3, 1), 6: free}},
		"somebody has it, nobody is there": {nil, row(none(in, false), ended(freed(lock3))), map[int]do{2: stores(lock3, 1), 6: free}},
		"somebody comes meanwhile":         {two(), row(took(in, home(), one, some(3, 6, 8), false), unparked(9, 3, 6, 8), ended(freed(lock3))), map[int]do{2: stores(lock3, 1), 5: queuesUp(late), 6: free}},
		"all go meanwhile":                 {two(), row(none(in, false), ended(freed(lock3))), map[int]do{2: stores(lock3, 1), 5: empties(home()), 6: free}},
		"somebody waits for it":            {two(), row(takes(3, 6), unparked(9, 3, 6), ended(wakesOne(lock3))), map[int]do{6: queue}},
		"somebody waited from line 1 on":   {two(), row(takes(3, 6), unparked(9, 3, 6), ended(wakesOne(lock3))), map[int]do{4: queue}},
		"somebody waits, nobody is there":  {nil, row(none(entered(lock3, 2), false), ended(wakesOne(lock3))), map[int]do{4: queue}},
	})
}

// P21.1: of each thread, as who unparks, and as who is unparked, and of keys and tokens of all sorts.
func TestThreadsAndKeys(t *testing.T) {
	for i, key := range []api.Addr{0, 1, 64, 255, 256, 511, 1023, 1024, 1025, 1057, 1120, one, other, 1 << 31, math.MaxUint32} {
		for thread := range 64 {
			first, second, token := (thread+i*5)%64, (thread*3+i)%64, uint64(thread)<<58+uint64(i)
			w := having(t, entry(first, key, 1<<63), entry(first, key, no), entry(first, key+1, yes), entry(second, key, 0))
			p := placeOf(key, 2)
			left := []lines.Entry{entry(first, key, no)}
			if placeOf(key+1, 2) == p {
				left = append(left, entry(first, key+1, yes))
			}
			way := row(took(entered(lockOf(p), 2), p, key, some(first, second), true, left...), unparked(token, first, second), ended(freed(lockOf(p))))
			way[2].took.by = thread
			check(t, w, filters.NewSome(thread, key, chooses{}, ones.Token(token)), way, nil)
		}
	}
	for _, token := range []uint64{0, 1, 2, 255, 1 << 31, 1<<32 + 1, 1 << 63, math.MaxUint64} {
		w := having(t, two()...)
		tells(77)(w)
		check(t, w, filters.NewSome(me, one, chooses{}, ones.Token(token)), whole(token, 3, 6), nil)
	}
}

// P21.1: entries of what is no thread, too, are taken; nobody is unparked by that, and nobody is told anything.
func TestEntriesOfNoThread(t *testing.T) {
	for _, who := range noThreads() {
		for at := range 3 {
			queue := slices.Insert(two(), at, entry(who, one, yes))
			w := having(t, queue...)
			x := plain()
			for range 3 {
				x.Step(w)
			}
			threads, _, _ := chosen(queue)
			checkGot(t, 3, x, ones.Result{Many: 3, Thread: threads[0]}, threads)
			note := notes.Note{Step: 3, Thread: me, Kind: notes.NtPick, Addr: one, Other: who}
			if got := w.Notes.All(); len(got) != 3 || got[at] != note {
				t.Errorf("thread %d: notes %+v", who, got)
			}
			tokens := w.Tokens
			tokens[3], tokens[6] = 9, 9
			if n := through(t, w, x); n != 4 || w.Tokens != tokens || w.Permits.Count() != 2 || w.Cells.Peek(lock3) != 0 || len(w.Tables.Queue(home())) != 0 {
				t.Errorf("thread %d: %d steps, %d calls, %v are left", who, n, w.Permits.Count(), w.Tables.Queue(home()))
			}
		}
	}
}

// P21.1: the bucket's timer is asked behind the taking: due, it fires with the next draw; ahead of its tick, and at it, it does not. Where nobody is taken it is not asked.
func TestTimers(t *testing.T) {
	const greatest uint64 = math.MaxUint64
	for name, c := range map[string]struct {
		at, was, now uint64
		fires        bool
		then         uint64 // At, with the draw 3
	}{
		"as it began":                {0, 0, 0, false, 0},
		"a tick behind its begin":    {0, 0, 1, true, 4},
		"long behind its begin":      {0, 0, 900, true, 903},
		"ahead of its tick":          {10, 4, 9, false, 0},
		"long ahead of it":           {10, 4, 0, false, 0},
		"at its tick":                {10, 4, 10, false, 0},
		"behind its tick":            {10, 4, 11, true, 14},
		"fired later than its tick":  {10, 40, 11, true, 14},
		"fired behind now":           {10, 40, 10, false, 0},
		"the greatest tick":          {greatest, 0, greatest, false, 0},
		"behind all but that":        {greatest - 1, 7, greatest, true, greatest},
		"a sum that stays":           {5, 5, greatest - 2, true, greatest},
		"a sum that is the greatest": {5, 5, greatest - 3, true, greatest},
		"a great sum":                {5, 5, greatest - 4, true, greatest - 1},
	} {
		t.Run(name, func(t *testing.T) {
			at := both(ticks(c.now), sets(home(), c.at, c.was))
			for _, queue := range [][]lines.Entry{two(), two()[:1], append(two(), skipped(), entry(9, neighbour, yes))} {
				w := having(t, queue...)
				at(w)
				way := wayOf(queue)
				if c.fires {
					way = row(fired(way[:3], c.then, c.now), way[3:])
				}
				check(t, w, plain(), way, nil)
			}
			for _, queue := range [][]lines.Entry{nil, {skipped()}, {entry(3, one, stop)}, {entry(9, neighbour, yes)}} {
				w := having(t, queue...)
				at(w)
				check(t, w, plain(), wayOf(queue), nil)
			}
		})
	}
}

// P21.1: it is the tick as line 1 is over that counts, and the timer of its place.
func TestTicksMeanwhile(t *testing.T) {
	late := func(in []saw, at, was uint64, a api.Addr) []saw {
		return row(fired(in, at, was), unparked(9, 3, 6), ended(freed(a)))
	}
	p := placeOf(one, 3)
	in := took(entered(lockOf(p), 3), p, one, some(3, 6), false)
	checkWays(t, map[string]way{
		"as it begins":            {two(), late(takes(3, 6), 5, 2, lock3), map[int]do{1: ticks(2)}},
		"as it enters":            {two(), late(takes(3, 6), 5, 2, lock3), map[int]do{3: ticks(2)}},
		"behind line 1":           {two(), whole(9, 3, 6), map[int]do{4: ticks(2)}},
		"within line 3":           {two(), whole(9, 3, 6), map[int]do{5: ticks(2)}},
		"its timer is set":        {two(), whole(9, 3, 6), map[int]do{2: ticks(2), 3: sets(home(), 2, 1)}},
		"another's is set":        {two(), late(takes(3, 6), 5, 2, lock3), map[int]do{2: ticks(2), 3: sets(bucket(2, 2), 2, 1)}},
		"of a greater table":      {two(), row(in, unparked(9, 3, 6), ended(freed(lockOf(p)))), map[int]do{1: both(ticks(2), replaces(3))}},
		"of a greater table, due": {two(), late(in, 6, 3, lockOf(p)), map[int]do{1: both(ticks(2), both(replaces(3), ticks(1)))}},
	})
}

// P21.1: draws, one behind the other: just who takes somebody from a bucket whose timer is due has one, however many it takes; behind the last one 0 is drawn.
func TestDraws(t *testing.T) {
	w := world(t, 0)
	begun := draws()
	timer := fairs.Timer{}
	for i := range 60 {
		w.Clock.Tick(uint64(i % 3))
		for n := range i % 4 {
			queuesUp(entry(3+n, one, yes))(w)
		}
		queuesUp(skipped())(w)
		want := i%4 > 0 && w.Clock.Now() > timer.At
		if want {
			draw := uint64(0)
			if len(begun) > 0 {
				draw, begun = begun[0]%6, begun[1:]
			}
			timer = fairs.Timer{At: w.Clock.Now() + draw, Fired: w.Clock.Now()}
		}
		x := plain()
		through(t, w, x)
		if r, _ := x.Got(); r.Many != i%4 || !r.More || r.Fair != want || w.Tables.Timer(home()) != timer || w.Clock.Left() != len(begun) {
			t.Errorf("%d, at tick %d: got %+v, the timer %+v, want %+v, %d draws", i, w.Clock.Now(), r, w.Tables.Timer(home()), timer, w.Clock.Left())
		}
	}
	if len(begun) != 0 {
		t.Errorf("%d draws are left", len(begun))
	}
}

// P21.1: who sleeps has a permit behind its step of line 3, not ahead of it, and so has who does not sleep yet; it is unparked in a step, with the token. Who is skipped sleeps on.
func TestPermits(t *testing.T) {
	for _, steps := range []int{6, 7, 8, 20} {
		for _, until := range []api.Until{{}, {On: true, At: 9}} {
			for _, token := range []uint64{0, 1, 44, math.MaxUint64} {
				w := world(t, 0)
				tells(5)(w)
				var sleepers []*parks.Park
				for i, thread := range []int{3, 20, 8, 6} {
					s := parks.NewPark(thread, one, []uint64{yes, no, yes, yes}[i], until, nil)
					for range steps {
						if s.Step(w) {
							t.Fatal("over")
						}
					}
					sleepers = append(sleepers, s)
				}
				x := filters.NewSome(me, one, chooses{}, ones.Token(token))
				for i := range 6 {
					x.Step(w)
					for n, thread := range []int{3, 8, 6, 20} {
						told, want := i >= 3+n, uint64(5)
						if told {
							want = token
						}
						if w.Permits.Asleep(2*thread) != (steps > 6) || steps > 6 && w.Permits.Goes(2*thread, 0) != told || w.Tokens[thread] != want {
							t.Errorf("step %d: thread %d goes on: %v, its token is %d", i+1, thread, w.Permits.Goes(2*thread, 0), w.Tokens[thread])
						}
					}
				}
				for i, s := range sleepers {
					over := s.Step(w)
					o, got := s.Got(w)
					if i == 1 && (over || !w.Permits.Asleep(40)) || i != 1 && (!over || o != parks.PaUnparked || got != token) {
						t.Errorf("Park %d: over %v, %d, %d", i, over, o, got)
					}
				}
				if x.Step(w); !x.Over() || w.Permits.Park(6) != permits.OuBlocks {
					t.Error("a permit more")
				}
			}
		}
	}
}

// P21.1: a deadline comes while a Some has the lock, or is about to: it finds the permit behind that, and ends unparked; if it was skipped, it ends late.
func TestUnparkedThoughLate(t *testing.T) {
	for at := range 4 {
		for ahead := range 7 {
			w := world(t, 0)
			var sleepers []*parks.Park
			for i, thread := range []int{3, 8, 6, 20} {
				s := parks.NewPark(thread, one, []uint64{yes, yes, yes, no}[i], api.Until{On: i == at, At: 1}, nil)
				for range 7 {
					s.Step(w)
				}
				sleepers = append(sleepers, s)
			}
			x := plain()
			// The last step ahead is one of line 3, or one of its Enter's.
			for range ahead {
				x.Step(w)
			}
			w.Clock.Tick(1)
			late := sleepers[at]
			over := late.Step(w)
			for i := 0; !over || !x.Over(); i++ {
				if i > 40 {
					t.Fatal("they go on")
				}
				x.Step(w)
				over = late.Step(w)
			}
			o, token := late.Got(w)
			want, told, left := parks.PaUnparked, uint64(9), 1
			if at == 3 {
				want, told, left = parks.PaLate, 0, 0
			}
			if _, got := x.Got(); o != want || token != told || !slices.Equal(got, some(3, 8, 6)) || len(w.Tables.Queue(home())) != left {
				t.Errorf("behind %d steps: %d, %d, got %v", ahead, o, token, got)
			}
		}
	}
}

// noThreads: numbers that are no thread's.
func noThreads() []int {
	return []int{-1, -2, -64, 64, 65, 128, 1 << 32, -1 << 32, 1<<32 + 5, math.MinInt, math.MaxInt}
}

// P21.1, R3: what is of no thread, of none, and of one that no call made is over, and does nothing; no filter and no answer is asked.
func TestOverFromTheStart(t *testing.T) {
	w := having(t, two()...)
	w.Clock.Tick(3)
	log := &asks{w: w}
	f := asker(func() { t.Error("a filter is asked") })
	all := []*filters.Some{nil, {}, new(filters.Some)}
	for _, thread := range noThreads() {
		all = append(all, filters.NewSome(thread, one, nil, nil), filters.NewSome(thread, one, f, mine), filters.NewSome(thread, one, f, &answer{steps: 1, log: log}))
	}
	words, before := w.Cells.Words(), looksOf(w)
	for i, x := range all {
		for _, in := range []*worlds.World{w, nil, {}} {
			if !x.Over() || !x.Step(in) || !x.Over() {
				t.Errorf("%d: over: %v", i, x.Over())
			}
			checkGot(t, i, x, empty(), nil)
		}
	}
	if w.Steps() != 0 || !slices.Equal(w.Cells.Words(), words) || !looksOf(w).same(before) || len(log.told) != 0 {
		t.Error("they do something")
	}
}

// P21.1: one that has just begun is not over, and nobody is taken; in no world it does nothing.
func TestJustBegun(t *testing.T) {
	for _, thread := range []int{0, 1, me, 62, 63} {
		for _, f := range []lines.Filter{nil, chooses{}} {
			for _, a := range []ones.Answer{nil, mine, &answer{steps: 1}} {
				x := filters.NewSome(thread, one, f, a)
				for i := range 5 {
					if x.Over() || x.Step(nil) {
						t.Errorf("thread %d: over: %v", thread, x.Over())
					}
					checkGot(t, i, x, empty(), nil)
				}
			}
		}
	}
}

// P21.1: behind its last step it is over, whatever comes.
func TestOverStays(t *testing.T) {
	w := having(t, two()...)
	x := plain()
	run(t, w, x, whole(9, 3, 6), nil)
	queuesUp(entry(8, one, yes), entry(9, one, yes))(w)
	both(ticks(5), stores(lock3, 1))(w)
	steps := w.Steps()
	for i := range 9 {
		if !x.Step(w) || !x.Step(nil) || !x.Over() || w.Steps() != steps {
			t.Fatalf("over: %v, %d steps", x.Over(), w.Steps()-steps)
		}
		checkGot(t, i, x, ones.Result{Many: 2, Thread: 3}, some(3, 6))
	}
}

// P21.1: what was told is whoever's: spoilt, it changes neither who is unparked nor what is told later; and so it is with what was told of another Some.
func TestToldInNewMemory(t *testing.T) {
	w := having(t, two()...)
	x := plain()
	for range 3 {
		x.Step(w)
	}
	_, first := x.Got()
	_, second := x.Got()
	first[0], first[1] = 20, 21
	if !slices.Equal(second, some(3, 6)) || cap(first) != 2 || cap(second) != 2 {
		t.Errorf("told %v and %v", first, second)
	}
	for range 2 {
		x.Step(w)
	}
	if w.Tokens[3] != 9 || w.Tokens[6] != 9 || w.Tokens[20] != 0 || w.Tokens[21] != 0 {
		t.Error("others are unparked")
	}
	queuesUp(entry(8, one, yes))(w)
	x.Step(w)
	y := plain()
	through(t, w, y)
	checkGot(t, 6, x, ones.Result{Many: 2, Thread: 3}, some(3, 6))
	checkGot(t, 6, y, ones.Result{Many: 1, Thread: 8}, some(8))
	if !slices.Equal(first, some(20, 21)) || !slices.Equal(second, some(3, 6)) {
		t.Errorf("what was told is %v and %v", first, second)
	}
}

// P21.1: what is not its own stays: other buckets, who is asleep, other tokens, the clock.
func TestNothingElse(t *testing.T) {
	w := having(t, entry(3, one, yes), entry(30, neighbour, yes), entry(31, other, yes), entry(32, 0, yes), entry(34, one, no), entry(6, one, yes), entry(33, 1, yes))
	for thread := range w.Tokens {
		w.Tokens[thread] = uint64(thread) + 1
		w.Permits.Park(2 * thread)
		w.Permits.Park(2*thread + 1)
	}
	check(t, w, plain(), row(took(entered(lock3, 2), home(), one, some(3, 6), true, entry(30, neighbour, yes), entry(34, one, no)), unparked(9, 3, 6), ended(freed(lock3))), nil)
	for parker := range 128 {
		if w.Permits.Goes(parker, 0) != (parker == 6 || parker == 12) || !w.Permits.Asleep(parker) {
			t.Errorf("parker %d: goes on: %v", parker, w.Permits.Goes(parker, 0))
		}
	}
}

// R3: a world that no call made has no lock to be had: it goes on there; no line panics there.
func TestEmptyWorld(t *testing.T) {
	for steps := range 12 {
		w := having(t, two()...)
		x := filters.NewSome(me, one, chooses{}, &answer{steps: 3, log: &asks{w: w}})
		for range steps {
			x.Step(w)
		}
		var none worlds.World
		for range 40 {
			x.Step(&none)
		}
		if steps > 0 {
			continue
		}
		if x.Over() || none != (worlds.World{}) {
			t.Error("it has a lock in no cells")
		}
		checkGot(t, 40, x, empty(), nil)
	}
}

// R3: worlds that lack a part: what there is is used.
func TestWorldsThatLackSomething(t *testing.T) {
	w := worlds.World{Cells: cells.New()}
	x := plain()
	for i := range 4 {
		if x.Step(&w) != (i == 3) {
			t.Errorf("step %d: over: %v", i+1, x.Over())
		}
	}
	checkGot(t, 4, x, empty(), nil)
	if w.Steps() != 4 || w.Cells.Peek(lock3) != 0 {
		t.Errorf("without tables: %d steps", w.Steps())
	}
	w = worlds.World{Cells: cells.New(), Tables: tables.New(0)}
	w.Tables.Put(home(), two())
	x = plain()
	for i := range 6 {
		if x.Step(&w) != (i == 5) {
			t.Errorf("step %d: over: %v", i+1, x.Over())
		}
	}
	checkGot(t, 6, x, ones.Result{Many: 2, Thread: 3}, some(3, 6))
	if w.Tokens[3] != 9 || w.Tokens[6] != 9 || len(w.Tables.Places(3)) != 0 || w.Steps() != 4 {
		t.Errorf("without parkers, notes and a clock: its token is %d", w.Tokens[3])
	}
}

// R1: a world is used in the step that it is handed to, and in no other.
func TestTwoWorlds(t *testing.T) {
	here, there := world(t, 0), having(t, two()...)
	x := plain()
	x.Step(here)
	x.Step(here)
	x.Step(there)
	if there.Steps() != 1 || here.Steps() != 2 || here.Notes.Count() != 0 || there.Notes.Count() != 2 || len(there.Tables.Places(3)) != 0 {
		t.Error("line 1 is not over where it was handed")
	}
	if x.Step(here); here.Tokens[3] != 9 || there.Tokens[3] != 0 || here.Permits.Count() != 1 || there.Permits.Count() != 0 {
		t.Error("line 3 is not where it was handed")
	}
	if x.Step(there); there.Tokens[6] != 9 || here.Tokens[6] != 0 || here.Permits.Count() != 1 || there.Permits.Count() != 1 {
		t.Error("line 3 is not where it was handed next")
	}
	if !x.Step(here) || here.Cells.Peek(lock3) != 0 || there.Steps() != 2 {
		t.Error("line 4 is not where it was handed")
	}
}
