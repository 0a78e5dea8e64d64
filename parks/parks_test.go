package parks_test

import (
	"math"
	"slices"
	"testing"

	"layby/api"
	"layby/cells"
	"layby/lines"
	"layby/notes"
	"layby/parks"
	"layby/permits"
	"layby/tables"
	"layby/worlds"
)

// me: who parks mostly, its parkers, and the cell of its key.
const (
	me              = 5
	myLot           = 2 * me
	myWord          = 2*me + 1
	myCell api.Addr = 64 + me
)

// Keys: one and its neighbour are in bucket 3 of the table of 2 bits, the other one is in bucket 1.
const (
	one       api.Addr = 1152
	neighbour api.Addr = 1168
	other     api.Addr = 1156
)

// Locks of these two buckets.
const (
	lock3 api.Addr = 263
	lock1 api.Addr = 261
)

// mine: the token that is brought.
const mine uint64 = 7

// never: no deadline.
func never() api.Until { return api.Until{} }

// at a tick a deadline comes.
func at(tick uint64) api.Until { return api.Until{On: true, At: tick} }

// bitsOf a word, by plain numbers.
func bitsOf(word uint64) int {
	for bits := 2; bits <= 8; bits++ {
		if word == uint64(bits) {
			return bits
		}
	}
	return 2
}

// placeOf a key by a word, by plain numbers.
func placeOf(key api.Addr, word uint64) tables.Place {
	bits := bitsOf(word)
	return tables.Place{Bits: bits, Bucket: int(uint64(key) * 11400714819323198485 / (1 << (64 - bits)))}
}

// lockOf a place, by plain numbers.
func lockOf(p tables.Place) api.Addr {
	return api.Addr(256 + 1<<p.Bits + p.Bucket)
}

// bucket of a table.
func bucket(bits, n int) tables.Place {
	return tables.Place{Bits: bits, Bucket: n}
}

// The keys stand as it is said of them.
func TestKeysAreApart(t *testing.T) {
	for key, want := range map[api.Addr]tables.Place{one: bucket(2, 3), neighbour: bucket(2, 3), other: bucket(2, 1)} {
		if got := placeOf(key, 2); got != want {
			t.Errorf("key %d: %+v", key, got)
		}
	}
	if lockOf(placeOf(one, 2)) != lock3 || lockOf(placeOf(other, 2)) != lock1 || placeOf(one, 4) == placeOf(neighbour, 4) {
		t.Error("locks, or a greater table")
	}
}

// world of a Spin, in which some words stand at first; no step was made.
func world(t *testing.T, spin int, l ...cells.Word) *worlds.World {
	t.Helper()
	w, e := worlds.New(worlds.Config{Spin: spin, Most: 5, Draws: []uint64{3, 1, 4}})
	if w == nil || e != 0 {
		t.Fatalf("no world of Spin %d: %d", spin, e)
	}
	w.Cells = cells.New(append([]cells.Word{{Addr: 0, Value: 2}}, l...)...)
	return w
}

// stands at an address at first.
func stands(a api.Addr, v uint64) cells.Word { return cells.Word{Addr: a, Value: v} }

// entry of a thread.
func entry(thread int, key api.Addr, token uint64) lines.Entry {
	return lines.Entry{Thread: thread, Key: key, Token: token}
}

// queues of small tables: those that are not empty.
type queues map[tables.Place][]lines.Entry

// queuesOf a world.
func queuesOf(w *worlds.World) queues {
	out := queues{}
	for bits := 2; bits <= 4; bits++ {
		for n := range 1 << bits {
			if l := w.Tables.Queue(bucket(bits, n)); len(l) > 0 {
				out[bucket(bits, n)] = l
			}
		}
	}
	return out
}

// same queues?
func (q queues) same(as queues) bool {
	if len(q) != len(as) {
		return false
	}
	for p, l := range q {
		if !slices.Equal(l, as[p]) {
			return false
		}
	}
	return true
}

// without the first entry of a thread at a place.
func (q queues) without(p tables.Place, thread int) {
	for i, e := range q[p] {
		if e.Thread == thread {
			q[p] = slices.Concat(q[p][:i], q[p][i+1:])
			break
		}
	}
	if len(q[p]) == 0 {
		delete(q, p)
	}
}

// saw: what a step is to have done, by plain numbers.
type saw struct {
	access api.Access   // of a step that is an access
	call   permits.Call // of a step that is a call
	parked bool         // behind it line 8 is next
	over   bool         // behind it it is over

	note  notes.Kind   // what it notes, if it does
	where tables.Place // whose queue that changes
	entry lines.Entry  // whose thread comes or goes, and the key that is noted
}

// Accesses and calls.

func loaded(a api.Addr, found uint64) saw {
	return saw{access: api.Access{Kind: api.AcLoad, Addr: a, Was: found, Is: found}}
}

func put(a api.Addr, was, is uint64) saw {
	return saw{access: api.Access{Kind: api.AcStore, Addr: a, Was: was, Is: is}}
}

func cas(a api.Addr, was, is uint64) saw {
	return saw{access: api.Access{Kind: api.AcCAS, Addr: a, Was: was, Is: is}}
}

func add(a api.Addr, was, is uint64) saw {
	return saw{access: api.Access{Kind: api.AcAdd, Addr: a, Was: was, Is: is}}
}

func and(a api.Addr, was, is uint64) saw {
	return saw{access: api.Access{Kind: api.AcAnd, Addr: a, Was: was, Is: is}}
}

func called(k permits.CallKind, parker int) saw {
	return saw{call: permits.Call{Kind: k, Parker: parker}}
}

func nothing() saw { return saw{} }

// Rows of steps.

// row of steps, one behind the other.
func row(parts ...[]saw) []saw { return slices.Concat(parts...) }

// these steps.
func these(s ...saw) []saw { return s }

// ended: behind the last one of these steps it is over.
func ended(steps []saw) []saw {
	out := slices.Clone(steps)
	out[len(out)-1].over = true
	return out
}

// parked: behind the last one of these steps line 8 is next.
func parked(steps []saw) []saw {
	out := slices.Clone(steps)
	out[len(out)-1].parked = true
	return out
}

// entered a bucket by the table's word (line 1).
func entered(a api.Addr, word uint64) []saw {
	return these(loaded(0, word), cas(a, 0, 1), loaded(0, word))
}

// stored a key (line 4), where another one was.
func stored(was, is api.Addr) []saw {
	return these(put(myCell, uint64(was), uint64(is)))
}

// queued at a place (line 5).
func queued(p tables.Place, key api.Addr) []saw {
	s := called(permits.CaPrepare, myLot)
	s.note, s.where, s.entry = notes.NtPark, p, entry(me, key, mine)
	return these(s)
}

// freed a lock for which nobody waits (lines 3, 6, 11, 13).
func freed(a api.Addr) []saw { return these(add(a, 1, 0)) }

// begun: lines 1 to 6 of a plain one, in a world as at first: it is parked.
func begun() []saw {
	return row(entered(lock3, 2), stored(0, one), queued(bucket(2, 3), one), parked(freed(lock3)))
}

// sleeps so often without a deadline (line 8): each time it stays there.
func sleeps(times int) []saw {
	return slices.Repeat(parked(these(called(permits.CaPark, myLot))), times)
}

// waits so often till its deadline (line 8): each time it stays there.
func waits(times int) []saw {
	return slices.Repeat(parked(these(called(permits.CaUntil, myLot))), times)
}

// woken: line 8, that is over.
func woken() []saw { return ended(these(called(permits.CaPark, myLot))) }

// wokenInTime likewise, with a deadline.
func wokenInTime() []saw { return ended(these(called(permits.CaUntil, myLot))) }

// tooLate: line 8, behind which its own bucket is looked for.
func tooLate() []saw { return these(called(permits.CaUntil, myLot)) }

// owned: line 9, by a key and the table's word.
func owned(a api.Addr, key api.Addr, word uint64) []saw {
	return these(loaded(myCell, uint64(key)), loaded(0, word), cas(a, 0, 1), loaded(0, word), loaded(myCell, uint64(key)))
}

// asked: line 10, that changes no queue.
func asked() []saw { return these(called(permits.CaLate, myLot)) }

// gone: line 10, by which it is out of a place's queue.
func gone(p tables.Place, key api.Addr) []saw {
	s := called(permits.CaLate, myLot)
	s.note, s.where, s.entry = notes.NtGone, p, entry(me, key, mine)
	return these(s)
}

// late: lines 9 to 13 of a plain one that is in one's queue.
func late() []saw {
	return row(owned(lock3, one, 2), gone(bucket(2, 3), one), ended(freed(lock3)))
}

// change of queues that a step is to make.
func (s saw) change(q queues) {
	switch s.note {
	case notes.NtPark:
		q[s.where] = append(q[s.where], s.entry)
	case notes.NtGone:
		q.without(s.where, s.entry.Thread)
	}
}

// checkSaw: that the next step of a Park does just that.
func checkSaw(t *testing.T, i int, x *parks.Park, w *worlds.World, want saw) {
	t.Helper()
	accesses, calls, noted, all := w.Cells.Count(), w.Permits.Count(), w.Notes.Count(), queuesOf(w)
	if over := x.Step(w); over != want.over || x.Over() != want.over || x.Parked() != want.parked {
		t.Errorf("step %d: %v, Over = %v, Parked = %v", i, over, x.Over(), x.Parked())
	}
	if want.access != (api.Access{}) {
		accesses++
		if got := w.Cells.Last(); got != want.access {
			t.Errorf("step %d: the access %+v, want %+v", i, got, want.access)
		}
	}
	if want.call != (permits.Call{}) {
		calls++
		if got := w.Permits.Last(); got != want.call {
			t.Errorf("step %d: the call %+v, want %+v", i, got, want.call)
		}
	}
	if w.Cells.Count() != accesses || w.Permits.Count() != calls {
		t.Errorf("step %d: %d accesses, %d calls; want %d, %d", i, w.Cells.Count(), w.Permits.Count(), accesses, calls)
	}
	var note []notes.Note
	if want.note != notes.NtNone {
		note = []notes.Note{{Step: accesses + calls, Thread: want.entry.Thread, Kind: want.note, Addr: want.entry.Key, Other: -1}}
	}
	if got := w.Notes.Since(noted); !slices.Equal(got, note) {
		t.Errorf("step %d: notes %+v, want %+v", i, got, note)
	}
	want.change(all)
	if got := queuesOf(w); !got.same(all) {
		t.Errorf("step %d: queues %v, want %v", i, got, all)
	}
}

// do: something of somebody else, ahead of a step.
type do func(w *worlds.World)

// stores at an address.
func stores(a api.Addr, v uint64) do {
	return func(w *worlds.World) { w.Cells.Store(a, v) }
}

// both, one behind the other.
func both(first, second do) do {
	return func(w *worlds.World) {
		first(w)
		second(w)
	}
}

// unparks a parker.
func unparks(parker int) do {
	return func(w *worlds.World) { w.Permits.Unpark(parker) }
}

// wakes me, with a token.
func wakes(token uint64) do {
	return func(w *worlds.World) {
		w.Tokens[me] = token
		w.Permits.Unpark(myLot)
	}
}

// ticks of the clock.
func ticks(n uint64) do {
	return func(w *worlds.World) { w.Clock.Tick(n) }
}

// queues entries, each where its key hashes to.
func queuesUp(l ...lines.Entry) do {
	return func(w *worlds.World) {
		for _, e := range l {
			p := placeOf(e.Key, w.Cells.Peek(0))
			w.Tables.Put(p, append(w.Tables.Queue(p), e))
		}
	}
}

// empties a bucket's queue.
func empties(p tables.Place) do {
	return func(w *worlds.World) { w.Tables.Put(p, nil) }
}

// takesOut a thread, wherever it is.
func takesOut(thread int) do {
	return func(w *worlds.World) {
		all := queuesOf(w)
		for _, p := range w.Tables.Places(thread) {
			all.without(p, thread)
			w.Tables.Put(p, all[p])
		}
	}
}

// moves me to another key's queue.
func moves(to api.Addr) do {
	return func(w *worlds.World) {
		takesOut(me)(w)
		queuesUp(entry(me, to, mine))(w)
		w.Cells.Store(myCell, uint64(to))
	}
}

// replaces the table that counts by a greater one.
func replaces(to int) do {
	return func(w *worlds.World) {
		w.Tables.Grow(bitsOf(w.Cells.Peek(0)), to, w.Clock.Now())
		w.Cells.Store(0, uint64(to))
	}
}

// waitsFor a lock, that somebody has: a thread, alone.
func waitsFor(thread int, a api.Addr) do {
	return func(w *worlds.World) {
		w.Links.Push(thread, -1)
		w.Cells.Store(a, 4*uint64(thread+1)+1)
	}
}

// run a row of steps, where somebody else does something ahead of some of them.
func run(t *testing.T, w *worlds.World, x *parks.Park, way []saw, ahead map[int]do) {
	t.Helper()
	if x.Over() || x.Parked() {
		t.Error("over, or parked, ahead of its first step")
	}
	for i, s := range way {
		if o, token := x.Got(w); o != parks.PaNone || token != 0 {
			t.Errorf("ahead of step %d: %d, %d", i+1, o, token)
		}
		if act := ahead[i+1]; act != nil {
			act(w)
		}
		is := x.Parked()
		if x.Step(nil) || x.Parked() != is {
			t.Error("a step in no world")
		}
		checkSaw(t, i+1, x, w, s)
	}
}

// checkOver: that it is, and does nothing, whatever changes.
func checkOver(t *testing.T, w *worlds.World, x *parks.Park, o parks.Outcome, token uint64) {
	t.Helper()
	for i := range 3 {
		if got, k := x.Got(w); got != o || k != token {
			t.Errorf("it ended %d, with the token %d; want %d, %d", got, k, o, token)
		}
		w.Cells.Store(0, uint64(i))
		w.Permits.Unpark(myLot)
		checkSaw(t, i, x, w, saw{over: true})
		if !x.Step(nil) || x.Parked() {
			t.Error("not over in no world, or parked")
		}
	}
}

// check that a Park does just that; if the last step says so, it is over, and ended with an outcome and a token.
func check(t *testing.T, w *worlds.World, x *parks.Park, way []saw, ahead map[int]do, o parks.Outcome, token uint64) {
	t.Helper()
	run(t, w, x, way, ahead)
	if way[len(way)-1].over {
		checkOver(t, w, x, o, token)
	} else if got, k := x.Got(w); got != o || k != token {
		t.Errorf("it ended %d, with the token %d, and is not over", got, k)
	}
}

// plain Park at one.
func plain(until api.Until) *parks.Park {
	return parks.NewPark(me, one, mine, until, nil)
}

// The chapter's example.
func TestExample(t *testing.T) {
	w, e := worlds.New(worlds.Config{})
	if e != 0 {
		t.Fatal(e)
	}
	x := parks.NewPark(3, 1152, 7, api.Until{}, parks.Plain{})
	for i, want := range []api.AcKind{api.AcLoad, api.AcCAS, api.AcLoad, api.AcStore, api.AcStore, api.AcAdd} {
		if x.Parked() || x.Step(w) || w.Cells.Last().Kind != want || w.Steps() != i+1 {
			t.Errorf("step %d: %+v, %d steps", i+1, w.Cells.Last(), w.Steps())
		}
	}
	if !x.Parked() || w.Permits.Count() != 1 || w.Permits.Last() != (permits.Call{Kind: permits.CaPrepare, Parker: 6}) {
		t.Errorf("parked: %v, %+v", x.Parked(), w.Permits.Last())
	}
	if got := w.Tables.Queue(tables.Place{Bits: 2, Bucket: 3}); !slices.Equal(got, []lines.Entry{{Thread: 3, Key: 1152, Token: 7}}) {
		t.Errorf("the queue %v", got)
	}
	if got := w.Notes.All(); !slices.Equal(got, []notes.Note{{Step: 5, Thread: 3, Kind: notes.NtPark, Addr: 1152, Other: -1}}) {
		t.Errorf("notes %+v", got)
	}
	if got := w.Cells.Words(); !slices.Equal(got, []cells.Word{{Addr: 0, Value: 2}, {Addr: 67, Value: 1152}}) {
		t.Errorf("words %v", got)
	}
}

// way of a Park, with what somebody else does ahead of some steps, and what is left in the end.
type way struct {
	until api.Until
	steps []saw
	ahead map[int]do
	o     parks.Outcome
	token uint64
	left  queues
}

// alone: my entry at one.
func alone() queues { return queues{bucket(2, 3): {entry(me, one, mine)}} }

// checkWays of plain ones.
func checkWays(t *testing.T, ways map[string]way) {
	t.Helper()
	for name, c := range ways {
		t.Run(name, func(t *testing.T) {
			w := world(t, 0)
			check(t, w, plain(c.until), c.steps, c.ahead, c.o, c.token)
			if got := queuesOf(w); !got.same(c.left) {
				t.Errorf("queues %v, want %v", got, c.left)
			}
			for _, word := range w.Cells.Words() {
				if word.Addr >= 256 {
					t.Errorf("at %d stands %d", word.Addr, word.Value)
				}
			}
			checkQuiet(t, w, 0)
		})
	}
}

// P18.1, P18.2: line 8 of one without a deadline: it gets its permit at once, or sleeps, and gets it later.
func TestSleeps(t *testing.T) {
	checkWays(t, map[string]way{
		"for ever":                         {never(), row(begun(), sleeps(9)), nil, parks.PaNone, 0, alone()},
		"not at all":                       {never(), row(begun(), woken()), map[int]do{7: wakes(44)}, parks.PaUnparked, 44, alone()},
		"unparked ahead of the Free":       {never(), row(begun(), woken()), map[int]do{6: wakes(44)}, parks.PaUnparked, 44, alone()},
		"unparked ahead of Prepare":        {never(), row(begun(), sleeps(2)), map[int]do{5: wakes(44)}, parks.PaNone, 0, alone()},
		"unparked ahead of all":            {never(), row(begun(), sleeps(2)), map[int]do{1: wakes(44)}, parks.PaNone, 0, alone()},
		"till it is unparked":              {never(), row(begun(), sleeps(1), woken()), map[int]do{8: wakes(0)}, parks.PaUnparked, 0, alone()},
		"often, till it is unparked":       {never(), row(begun(), sleeps(5), woken()), map[int]do{12: wakes(1)}, parks.PaUnparked, 1, alone()},
		"unparked twice":                   {never(), row(begun(), sleeps(1), woken()), map[int]do{8: both(wakes(3), wakes(4))}, parks.PaUnparked, 4, alone()},
		"taken out, and unparked":          {never(), row(begun(), sleeps(3), woken()), map[int]do{9: takesOut(me), 10: wakes(math.MaxUint64)}, parks.PaUnparked, math.MaxUint64, queues{}},
		"taken out, and not unparked":      {never(), row(begun(), sleeps(6)), map[int]do{9: takesOut(me)}, parks.PaNone, 0, queues{}},
		"its word parker is unparked":      {never(), row(begun(), sleeps(6)), map[int]do{8: unparks(myWord)}, parks.PaNone, 0, alone()},
		"its neighbours are unparked":      {never(), row(begun(), sleeps(6)), map[int]do{8: both(unparks(myLot-2), unparks(myLot+2))}, parks.PaNone, 0, alone()},
		"a token, but no permit":           {never(), row(begun(), sleeps(6)), map[int]do{8: func(w *worlds.World) { w.Tokens[me] = 9 }}, parks.PaNone, 0, alone()},
		"a deadline that is not on":        {api.Until{At: 1}, row(begun(), sleeps(4)), map[int]do{7: ticks(1), 8: ticks(9)}, parks.PaNone, 0, alone()},
		"a deadline of 0 that is not on":   {api.Until{At: 0}, row(begun(), sleeps(4)), nil, parks.PaNone, 0, alone()},
		"ticks, without a deadline":        {never(), row(begun(), sleeps(4)), map[int]do{8: ticks(math.MaxUint64)}, parks.PaNone, 0, alone()},
		"others come to its key":           {never(), row(begun(), sleeps(1), woken()), map[int]do{8: both(queuesUp(entry(9, one, 1)), wakes(2))}, parks.PaUnparked, 2, queues{bucket(2, 3): {entry(me, one, mine), entry(9, one, 1)}}},
		"others are there ahead of line 5": {never(), row(begun(), sleeps(2)), map[int]do{5: queuesUp(entry(9, one, 1), entry(8, neighbour, 2))}, parks.PaNone, 0, queues{bucket(2, 3): {entry(9, one, 1), entry(8, neighbour, 2), entry(me, one, mine)}}},
		"others are elsewhere":             {never(), row(begun(), sleeps(2)), map[int]do{1: queuesUp(entry(9, other, 1), entry(me, 0, 4))}, parks.PaNone, 0, queues{bucket(2, 3): {entry(me, one, mine)}, bucket(2, 1): {entry(9, other, 1)}, bucket(2, 0): {entry(me, 0, 4)}}},
		"its entry is there already":       {never(), row(begun(), sleeps(2)), map[int]do{5: queuesUp(entry(me, one, mine))}, parks.PaNone, 0, queues{bucket(2, 3): {entry(me, one, mine), entry(me, one, mine)}}},
	})
}

// P18.1, P18.2: line 8 of one with a deadline: it is there already, comes while it sleeps, or not yet; a permit comes ahead of it.
func TestDeadlines(t *testing.T) {
	const greatest uint64 = math.MaxUint64
	checkWays(t, map[string]way{
		"at tick 0":                       {at(0), row(begun(), tooLate(), late()), nil, parks.PaLate, 0, queues{}},
		"there ahead of line 8":           {at(3), row(begun(), tooLate(), late()), map[int]do{7: ticks(3)}, parks.PaLate, 0, queues{}},
		"there from the start":            {at(3), row(begun(), tooLate(), late()), map[int]do{1: ticks(9)}, parks.PaLate, 0, queues{}},
		"not yet":                         {at(3), row(begun(), waits(6)), map[int]do{7: ticks(2)}, parks.PaNone, 0, alone()},
		"met while it sleeps":             {at(3), row(begun(), waits(2), tooLate(), late()), map[int]do{7: ticks(2), 9: ticks(1)}, parks.PaLate, 0, queues{}},
		"passed while it sleeps":          {at(3), row(begun(), waits(4), tooLate(), late()), map[int]do{11: ticks(100)}, parks.PaLate, 0, queues{}},
		"tick by tick":                    {at(3), row(begun(), waits(3), tooLate(), late()), map[int]do{8: ticks(1), 9: ticks(1), 10: ticks(1)}, parks.PaLate, 0, queues{}},
		"the greatest one, not yet":       {at(greatest), row(begun(), waits(3)), map[int]do{8: ticks(greatest - 1)}, parks.PaNone, 0, alone()},
		"the greatest one":                {at(greatest), row(begun(), waits(3), tooLate(), late()), map[int]do{8: ticks(greatest - 1), 10: ticks(1)}, parks.PaLate, 0, queues{}},
		"a great one":                     {at(1 << 63), row(begun(), waits(1), tooLate(), late()), map[int]do{7: ticks(1<<63 - 1), 8: ticks(1)}, parks.PaLate, 0, queues{}},
		"unparked ahead of line 8":        {at(3), row(begun(), wokenInTime()), map[int]do{7: wakes(6)}, parks.PaUnparked, 6, alone()},
		"unparked while it sleeps":        {at(3), row(begun(), waits(2), wokenInTime()), map[int]do{9: wakes(6)}, parks.PaUnparked, 6, alone()},
		"unparked, and the deadline came": {at(3), row(begun(), waits(2), wokenInTime()), map[int]do{9: both(ticks(4), wakes(6))}, parks.PaUnparked, 6, alone()},
		"a permit at tick 0":              {at(0), row(begun(), wokenInTime()), map[int]do{6: wakes(5)}, parks.PaUnparked, 5, alone()},
		"a permit ahead of Prepare":       {at(0), row(begun(), tooLate(), late()), map[int]do{5: wakes(5)}, parks.PaLate, 0, queues{}},
		"a token is no outcome's":         {at(0), row(begun(), tooLate(), late()), map[int]do{5: func(w *worlds.World) { w.Tokens[me] = 8 }}, parks.PaLate, 0, queues{}},
	})
}

// lateAt: a Park that sleeps once, and is late ahead of step 8 (line 8 is steps 7 and 8, line 9 is steps 9 to 13, line 10 step 14), and then does the rest.
func lateAt(rest ...[]saw) []saw {
	return row(begun(), waits(1), tooLate(), row(rest...))
}

// acts of lateAt: the tick, and what else somebody does.
func acts(more map[int]do) map[int]do {
	out := map[int]do{8: ticks(3)}
	for i, act := range more {
		out[i] = act
	}
	return out
}

// P18.1: line 10 finds a permit: it is unparked, whether it is queued still or not, and the permit stays.
func TestUnparkedAheadOfTheLock(t *testing.T) {
	ways := map[string]way{}
	for step, name := range map[int]string{9: "line 9", 10: "its second step", 13: "its last step", 14: "line 10"} {
		steps := lateAt(owned(lock3, one, 2), asked(), ended(freed(lock3)))
		ways["ahead of "+name] = way{at(3), steps, acts(map[int]do{step: wakes(21)}), parks.PaUnparked, 21, alone()}
		ways["out, ahead of "+name] = way{at(3), steps, acts(map[int]do{step: both(takesOut(me), wakes(22))}), parks.PaUnparked, 22, queues{}}
	}
	ways["behind line 10"] = way{at(3), lateAt(late()), acts(map[int]do{15: wakes(21)}), parks.PaLate, 0, queues{}}
	ways["ahead of line 9, with others"] = way{at(3), lateAt(owned(lock3, one, 2), asked(), ended(freed(lock3))),
		acts(map[int]do{9: both(queuesUp(entry(9, one, 1)), wakes(3))}), parks.PaUnparked, 3, queues{bucket(2, 3): {entry(me, one, mine), entry(9, one, 1)}}}
	checkWays(t, ways)

	w := world(t, 0)
	x := plain(at(0))
	run(t, w, x, row(begun(), tooLate(), owned(lock3, one, 2), asked(), ended(freed(lock3))), map[int]do{12: unparks(myLot)})
	if w.Permits.Late(myLot) || w.Permits.Asleep(myLot) || w.Permits.Park(myLot) != permits.OuGot || w.Permits.Park(myLot) != permits.OuBlocks {
		t.Error("the permit that was there at line 11 does not stay")
	}
}

// P18.1: a thread that was late is not asleep: its parker is as line 8 left it.
func TestLateIsAwake(t *testing.T) {
	w := world(t, 0)
	x := plain(at(1))
	run(t, w, x, row(begun(), waits(1), tooLate(), late()), map[int]do{8: ticks(1)})
	if w.Permits.Asleep(myLot) || !w.Permits.Late(myLot) || !w.Permits.Goes(myLot, 0) {
		t.Error("it is asleep, or has a permit")
	}
}

// P18.1: line 10 finds the thread's entry where its key hashes to, at no place, or elsewhere.
func TestWhereItsEntryIs(t *testing.T) {
	outOf := func(e ...lines.Entry) queues { return queues{bucket(2, 3): e} }
	plainRest := []saw(row(owned(lock3, one, 2), asked(), ended(freed(lock3))))
	moved := []saw(row(owned(lock1, other, 2), gone(bucket(2, 1), other), ended(freed(lock1))))
	next := []saw(row(owned(lock3, neighbour, 2), gone(bucket(2, 3), neighbour), ended(freed(lock3))))
	checkWays(t, map[string]way{
		"alone":                        {at(3), lateAt(late()), acts(nil), parks.PaLate, 0, queues{}},
		"the first one":                {at(3), lateAt(late()), acts(map[int]do{8: both(ticks(3), queuesUp(entry(9, one, 1), entry(8, neighbour, 2)))}), parks.PaLate, 0, outOf(entry(9, one, 1), entry(8, neighbour, 2))},
		"the last one":                 {at(3), lateAt(late()), acts(map[int]do{4: queuesUp(entry(9, one, 1), entry(8, neighbour, 2))}), parks.PaLate, 0, outOf(entry(9, one, 1), entry(8, neighbour, 2))},
		"between two":                  {at(3), lateAt(late()), acts(map[int]do{4: queuesUp(entry(9, one, 1)), 7: queuesUp(entry(8, one, 2))}), parks.PaLate, 0, outOf(entry(9, one, 1), entry(8, one, 2))},
		"out, ahead of line 9":         {at(3), lateAt(plainRest), acts(map[int]do{9: takesOut(me)}), parks.PaLate, 0, queues{}},
		"out, ahead of line 10":        {at(3), lateAt(plainRest), acts(map[int]do{14: takesOut(me)}), parks.PaLate, 0, queues{}},
		"out, and others stay":         {at(3), lateAt(plainRest), acts(map[int]do{4: queuesUp(entry(9, one, 1)), 9: takesOut(me)}), parks.PaLate, 0, outOf(entry(9, one, 1))},
		"moved to another bucket":      {at(3), lateAt(moved), acts(map[int]do{9: moves(other)}), parks.PaLate, 0, queues{}},
		"moved behind others":          {at(3), lateAt(moved), acts(map[int]do{9: both(queuesUp(entry(9, other, 1), entry(8, one, 1)), moves(other))}), parks.PaLate, 0, queues{bucket(2, 1): {entry(9, other, 1)}, bucket(2, 3): {entry(8, one, 1)}}},
		"moved in its bucket":          {at(3), lateAt(next), acts(map[int]do{9: moves(neighbour)}), parks.PaLate, 0, queues{}},
		"moved while it sleeps":        {at(3), lateAt(moved), acts(map[int]do{8: both(ticks(3), moves(other))}), parks.PaLate, 0, queues{}},
		"moved, there and back":        {at(3), lateAt(late()), acts(map[int]do{9: both(moves(other), moves(one))}), parks.PaLate, 0, queues{}},
		"moved while it looks":         {at(3), lateAt(these(loaded(myCell, uint64(one)), loaded(0, 2), cas(lock3, 0, 1), loaded(0, 2), loaded(myCell, uint64(other))), freed(lock3), moved), acts(map[int]do{10: moves(other)}), parks.PaLate, 0, queues{}},
		"moved ahead of the last look": {at(3), lateAt(these(loaded(myCell, uint64(one)), loaded(0, 2), cas(lock3, 0, 1), loaded(0, 2), loaded(myCell, uint64(neighbour))), freed(lock3), next), acts(map[int]do{13: moves(neighbour)}), parks.PaLate, 0, queues{}},
		"moved behind all looks":       {at(3), lateAt(plainRest), acts(map[int]do{14: moves(other)}), parks.PaLate, 0, queues{bucket(2, 1): {entry(me, other, mine)}}},
		"its entry is of another key":  {at(3), lateAt(late()), acts(map[int]do{14: both(takesOut(me), queuesUp(entry(me, neighbour, 3)))}), parks.PaLate, 0, queues{}},
		"its cell is of another key":   {at(3), lateAt(row(owned(lock1, other, 2), asked(), ended(freed(lock1)))), acts(map[int]do{9: stores(myCell, uint64(other))}), parks.PaLate, 0, alone()},
		"its cell is its neighbour's":  {at(3), lateAt(next), acts(map[int]do{9: stores(myCell, uint64(neighbour))}), parks.PaLate, 0, queues{}},
		"several entries of its own":   {at(3), lateAt(late()), acts(map[int]do{9: queuesUp(entry(me, one, 9), entry(me, one, 8))}), parks.PaLate, 0, outOf(entry(me, one, 9), entry(me, one, 8))},
		"the first one of its entries": {at(3), lateAt(late()), acts(map[int]do{9: both(takesOut(me), queuesUp(entry(me, neighbour, 9), entry(me, one, 8)))}), parks.PaLate, 0, outOf(entry(me, one, 8))},
		"an entry elsewhere, too":      {at(3), lateAt(late()), acts(map[int]do{9: queuesUp(entry(me, other, 9))}), parks.PaLate, 0, queues{bucket(2, 1): {entry(me, other, 9)}}},
		"its number in other entries":  {at(3), lateAt(late()), acts(map[int]do{9: queuesUp(entry(9, me, me), entry(me+1, one, me))}), parks.PaLate, 0, queues{bucket(2, 3): {entry(me+1, one, me)}, placeOf(me, 2): {entry(9, me, me)}}},
	})
}

// P18.1: the table is replaced meanwhile: ahead of line 1, while it enters, as it sleeps, as it looks for its own bucket.
func TestTableIsReplaced(t *testing.T) {
	for _, to := range []int{3, 4} {
		p := placeOf(one, uint64(to))
		a := lockOf(p)
		in := row(entered(a, uint64(to)), stored(0, one), queued(p, one), parked(freed(a)))
		out := row(tooLate(), owned(a, one, uint64(to)), gone(p, one), ended(freed(a)))
		turned := row(these(loaded(0, 2), cas(lock3, 0, 1), loaded(0, uint64(to))), freed(lock3))
		looked := row(tooLate(), these(loaded(myCell, uint64(one)), loaded(0, 2), cas(lock3, 0, 1), loaded(0, uint64(to))), freed(lock3))
		now := map[tables.Place][]lines.Entry{p: {entry(me, one, mine)}}
		checkWays(t, map[string]way{
			"ahead of line 1":       {at(0), row(in, out), map[int]do{1: replaces(to)}, parks.PaLate, 0, queues{}},
			"as it enters":          {at(9), row(turned, in, waits(2)), map[int]do{3: replaces(to)}, parks.PaNone, 0, now},
			"as it sleeps":          {at(3), row(begun(), waits(1), out), acts(map[int]do{8: both(ticks(3), replaces(to))}), parks.PaLate, 0, queues{}},
			"as it looks for it":    {at(3), row(begun(), waits(1), looked, out[1:]), acts(map[int]do{12: replaces(to)}), parks.PaLate, 0, queues{}},
			"as it sleeps, unmoved": {never(), row(begun(), sleeps(4)), map[int]do{8: replaces(to)}, parks.PaNone, 0, now},
		})
	}
}

// P18.1: the table's word is of a table that is not there: who parks is noted, and queued nowhere; who is late is in no queue.
func TestNoSuchTable(t *testing.T) {
	w := world(t, 0, stands(0, 4))
	p := placeOf(one, 4)
	a := lockOf(p)
	in := queued(p, one)
	in[0].note = notes.NtNone
	x := plain(at(0))
	way := row(entered(a, 4), stored(0, one), in, parked(freed(a)), tooLate(), owned(a, one, 4), asked(), ended(freed(a)))
	for i, s := range way {
		if i != 4 {
			checkSaw(t, i+1, x, w, s)
			continue
		}
		x.Step(w)
		if got := w.Notes.All(); len(got) != 1 || got[0] != (notes.Note{Step: 5, Thread: me, Kind: notes.NtPark, Addr: one, Other: -1}) {
			t.Errorf("notes %+v", got)
		}
	}
	checkOver(t, w, x, parks.PaLate, 0)
}

// contended: steps of who finds a lock that somebody has, sleeps for it once, and then has it.
func contended(a api.Addr) []saw {
	return these(cas(a, 1, 1), called(permits.CaPrepare, myWord), cas(a, 1, 25), called(permits.CaPark, myWord), called(permits.CaPark, myWord), loaded(a, 0), cas(a, 0, 1))
}

// P18.1: somebody else has the lock of its bucket: as it enters, and as it looks for its own; that is no park of line 8.
func TestLockThatSomebodyHas(t *testing.T) {
	free := both(unparks(myWord), stores(lock3, 0))
	in := row(these(loaded(0, 2)), contended(lock3), these(loaded(0, 2)), stored(0, one), queued(bucket(2, 3), one), parked(freed(lock3)))
	out := row(these(loaded(myCell, uint64(one)), loaded(0, 2)), contended(lock3), these(loaded(0, 2), loaded(myCell, uint64(one))), gone(bucket(2, 3), one), ended(freed(lock3)))
	checkWays(t, map[string]way{
		"as it enters":                     {never(), row(in, sleeps(2)), map[int]do{2: stores(lock3, 1), 6: free}, parks.PaNone, 0, alone()},
		"as it looks for its own":          {at(3), row(begun(), waits(1), tooLate(), out), map[int]do{8: ticks(3), 11: stores(lock3, 1), 15: free}, parks.PaLate, 0, queues{}},
		"both times":                       {at(3), row(in, tooLate(), out), map[int]do{1: ticks(3), 2: stores(lock3, 1), 6: free, 16: stores(lock3, 1), 20: free}, parks.PaLate, 0, queues{}},
		"unparked as it waits to enter":    {never(), row(in, sleeps(2)), map[int]do{2: stores(lock3, 1), 5: unparks(myLot), 6: free}, parks.PaNone, 0, alone()},
		"late as it waits to enter":        {at(3), row(in, tooLate(), late()), map[int]do{2: stores(lock3, 1), 5: ticks(3), 6: free}, parks.PaLate, 0, queues{}},
		"unparked as it waits for its own": {at(3), row(begun(), waits(1), tooLate(), out[:11], asked(), ended(freed(lock3))), map[int]do{8: ticks(3), 11: stores(lock3, 1), 14: both(takesOut(me), wakes(4)), 15: free}, parks.PaUnparked, 4, queues{}},
	})
}

// wakesOne: steps of a Free of a lock for which thread 9 waits.
func wakesOne(a api.Addr) []saw {
	return these(add(a, 41, 40), loaded(a, 40), cas(a, 40, 42), cas(a, 42, 0), called(permits.CaUnpark, 19))
}

// P18.1: somebody waits for the lock as it goes: lines 3, 6, 11 and 13 take as many steps as the Free does.
func TestLockThatSomebodyWaitsFor(t *testing.T) {
	queue := waitsFor(9, lock3)
	in := row(entered(lock3, 2), stored(0, one), queued(bucket(2, 3), one))
	checkWays(t, map[string]way{
		"line 6":           {never(), row(in, parked(wakesOne(lock3)), sleeps(2)), map[int]do{6: queue}, parks.PaNone, 0, alone()},
		"line 6, unparked": {never(), row(in, parked(wakesOne(lock3)), woken()), map[int]do{6: queue, 8: wakes(3)}, parks.PaUnparked, 3, alone()},
		"line 11":          {at(3), lateAt(owned(lock3, one, 2), asked(), ended(wakesOne(lock3))), acts(map[int]do{9: wakes(3), 15: queue}), parks.PaUnparked, 3, alone()},
		"line 13":          {at(3), lateAt(owned(lock3, one, 2), gone(bucket(2, 3), one), ended(wakesOne(lock3))), acts(map[int]do{15: queue}), parks.PaLate, 0, queues{}},
	})
	w := world(t, 0)
	x := parks.NewPark(me, one, mine, never(), parks.Check{Addr: one, All: 1})
	check(t, w, x, row(entered(lock3, 2), these(loaded(one, 0)), ended(wakesOne(lock3))), map[int]do{5: queue}, parks.PaInvalid, 0)
}

// P18.1: keys, tokens and deadlines of all sorts: they stand as they were handed in.
func TestKeysAndTokens(t *testing.T) {
	for i, key := range []api.Addr{0, 1, 64, 69, 255, 256, 511, 1023, 1024, 1025, 1057, 1120, one, other, 1 << 31, math.MaxUint32} {
		for j, token := range []uint64{0, 1, 2, 1 << 32, 1<<63 + 5, math.MaxUint64} {
			w := world(t, 0, stands(myCell, math.MaxUint64))
			p := placeOf(key, 2)
			x := parks.NewPark(me, key, token, at(0), nil)
			in := queued(p, key)
			in[0].entry.Token = token
			w.Tokens[me] = uint64(i)
			way := row(entered(lockOf(p), 2), these(put(myCell, math.MaxUint64, uint64(key))), in, parked(freed(lockOf(p))))
			if (i+j)%2 == 0 {
				check(t, w, x, row(way, wokenInTime()), map[int]do{7: unparks(myLot)}, parks.PaUnparked, uint64(i))
			} else {
				check(t, w, x, row(way, tooLate(), owned(lockOf(p), key, 2), gone(p, key), ended(freed(lockOf(p)))), nil, parks.PaLate, 0)
			}
		}
	}
}

// P18.1: of each thread it is that thread that is queued, whose cell says the key, and that sleeps.
func TestEachThread(t *testing.T) {
	for thread := range 64 {
		w := world(t, 0)
		x := parks.NewPark(thread, one, mine, at(1), nil)
		for range 7 {
			if x.Over() || x.Step(w) {
				t.Fatalf("thread %d is over", thread)
			}
		}
		if !x.Parked() || !w.Permits.Asleep(2*thread) || w.Cells.Peek(api.Addr(64+thread)) != uint64(one) {
			t.Errorf("thread %d is not asleep, or its cell says %d", thread, w.Cells.Peek(api.Addr(64+thread)))
		}
		if got := w.Tables.Queue(bucket(2, 3)); len(got) != 1 || got[0] != entry(thread, one, mine) {
			t.Errorf("thread %d: the queue %v", thread, got)
		}
		w.Tokens[thread] = uint64(thread) + 100
		if w.Clock.Tick(1); thread%2 == 0 {
			w.Permits.Unpark(2 * thread)
		}
		for !x.Step(w) {
		}
		want, told := parks.PaLate, uint64(0)
		if thread%2 == 0 {
			want, told = parks.PaUnparked, uint64(thread)+100
		}
		if o, token := x.Got(w); o != want || token != told || len(w.Tables.Places(thread)) != 1-thread%2 {
			t.Errorf("thread %d: %d, %d, at %v", thread, o, token, w.Tables.Places(thread))
		}
	}
}

// noThreads: numbers that are no thread's.
func noThreads() []int {
	return []int{-1, -2, -64, 64, 65, 128, 1 << 32, -1 << 32, 1<<32 + 5, math.MinInt, math.MaxInt}
}

// P18.1, P18.2, R3: what is of no thread, of none, and of one that no call made is over, and does nothing; no hook is asked.
func TestOverFromTheStart(t *testing.T) {
	w := world(t, 2)
	log := &asks{w: w}
	all := []*parks.Park{nil, {}, new(parks.Park)}
	for _, thread := range noThreads() {
		all = append(all, parks.NewPark(thread, one, mine, never(), nil), parks.NewPark(thread, one, mine, at(0), &hooks{validate: 1, before: 1, late: 1, log: log}))
	}
	before := w.Cells.Words()
	for thread := range w.Tokens {
		w.Tokens[thread] = 9
	}
	for i, x := range all {
		for _, in := range []*worlds.World{w, nil, {}} {
			if !x.Over() || !x.Step(in) || !x.Over() || x.Parked() {
				t.Errorf("%d: not over", i)
			}
			if o, token := x.Got(in); o != parks.PaNone || token != 0 {
				t.Errorf("%d: %d, %d", i, o, token)
			}
		}
	}
	if w.Steps() != 0 || !slices.Equal(w.Cells.Words(), before) || w.Notes.Count() != 0 || len(log.told) != 0 || len(queuesOf(w)) != 0 {
		t.Error("they do something")
	}
}

// checkQuiet: that a world has what no Park changes, as at first.
func checkQuiet(t *testing.T, w *worlds.World, spin int) {
	t.Helper()
	if w.Clock.Left() != 3 || w.Spin != spin {
		t.Fatalf("%d draws, Spin %d", w.Clock.Left(), w.Spin)
	}
}

// P18.1: it changes nothing else of a world: no timer, no draw, no tick, no token.
func TestNothingElse(t *testing.T) {
	for _, unparked := range []bool{false, true} {
		w := world(t, 1)
		for thread := range w.Tokens {
			w.Tokens[thread] = uint64(thread) + 1
		}
		tokens := w.Tokens
		w.Clock.Tick(50)
		x := plain(at(40))
		for i := range 15 {
			if unparked && i == 8 {
				w.Permits.Unpark(myLot)
			}
			x.Step(w)
		}
		if !x.Over() || w.Tokens != tokens || w.Clock.Now() != 50 {
			t.Errorf("over: %v, tokens %v, tick %d", x.Over(), w.Tokens, w.Clock.Now())
		}
		for n := range 4 {
			if got := w.Tables.Timer(bucket(2, n)); got.At != 0 || got.Fired != 0 {
				t.Errorf("the timer of bucket %d: %+v", n, got)
			}
		}
		if w.Tables.Has(3) {
			t.Error("a table more")
		}
		checkQuiet(t, w, 1)
	}
}

// P18.2: the token is what the world says when it is asked for, of just this thread; of another outcome there is none.
func TestTokenAsItIs(t *testing.T) {
	w, there := world(t, 0), world(t, 0)
	x := plain(never())
	w.Tokens[me-1], w.Tokens[me+1], there.Tokens[me] = 1, 2, 3
	run(t, w, x, row(begun(), sleeps(1), woken()), map[int]do{8: wakes(44)})
	for _, token := range []uint64{44, 0, 1, math.MaxUint64} {
		w.Tokens[me] = token
		if o, got := x.Got(w); o != parks.PaUnparked || got != token {
			t.Errorf("%d, %d", o, got)
		}
	}
	if o, got := x.Got(there); o != parks.PaUnparked || got != 3 {
		t.Errorf("in another world: %d, %d", o, got)
	}
	if o, got := x.Got(nil); o != parks.PaUnparked || got != 0 {
		t.Errorf("in no world: %d, %d", o, got)
	}
	if o, got := x.Got(&worlds.World{}); o != parks.PaUnparked || got != 0 {
		t.Errorf("in a world that no call made: %d, %d", o, got)
	}
	for _, x := range []*parks.Park{plain(at(0)), parks.NewPark(me, one, mine, never(), parks.Check{Any: 1, Addr: one})} {
		w := world(t, 0)
		w.Tokens[me] = 9
		for !x.Step(w) {
		}
		for _, in := range []*worlds.World{w, there, nil} {
			if o, got := x.Got(in); o == parks.PaUnparked || o == parks.PaNone || got != 0 {
				t.Errorf("%d, %d", o, got)
			}
		}
	}
}

// P18.1: one thread's Parks, one behind the other, each by itself.
func TestOneBehindTheOther(t *testing.T) {
	w := world(t, 0)
	check(t, w, plain(at(0)), row(begun(), tooLate(), late()), nil, parks.PaLate, 0)
	w.Cells.Store(0, 2)
	again := row(entered(lock3, 2), stored(one, one), queued(bucket(2, 3), one), parked(freed(lock3)))
	run(t, w, plain(never()), row(again, sleeps(1), woken()), map[int]do{8: both(takesOut(me), wakes(1))})
	x := parks.NewPark(me, other, mine, never(), nil)
	run(t, w, x, row(entered(lock1, 2), stored(one, other), queued(bucket(2, 1), other), parked(freed(lock1)), sleeps(3)), nil)
	if got := queuesOf(w); !got.same(queues{bucket(2, 1): {entry(me, other, mine)}}) {
		t.Errorf("queues %v", got)
	}
}

// R3: a world that no call made has no lock to be had: it goes on there, and keeps nothing; no line, no hook panics there.
func TestEmptyWorld(t *testing.T) {
	for steps := range 24 {
		w := world(t, 0)
		x := parks.NewPark(me, one, mine, at(0), &hooks{validate: 2, before: 2, late: 2, log: &asks{w: w}})
		for range steps {
			x.Step(w)
		}
		var empty worlds.World
		for range 40 {
			x.Step(&empty)
		}
		if empty != (worlds.World{}) {
			t.Errorf("behind %d steps: the world has something: %v", steps, empty)
		}
		if steps == 0 && (x.Over() || x.Parked()) {
			t.Error("it has a lock in no cells")
		}
	}
}

// R3: worlds that lack a part: what there is is used.
func TestWorldsThatLackSomething(t *testing.T) {
	w := worlds.World{Cells: cells.New()}
	x := plain(at(0))
	for i := range 20 {
		if x.Step(&w) || x.Parked() != (i >= 5) {
			t.Fatalf("step %d without parkers: over, or parked: %v", i+1, x.Parked())
		}
	}
	// A load, a CAS, a load, a store, a sum: without parkers Prepare and Park are no steps.
	if w.Steps() != 5 || w.Cells.Peek(myCell) != uint64(one) || w.Cells.Peek(lock3) != 0 {
		t.Errorf("%d steps, words %v", w.Steps(), w.Cells.Words())
	}

	w = worlds.World{Cells: cells.New(), Permits: permits.New()}
	x = plain(at(0))
	for range 6 {
		x.Step(&w)
	}
	w.Permits.Unpark(myLot)
	if !x.Parked() || !x.Step(&w) {
		t.Error("without tables, notes and a clock it is not unparked")
	}
	x = plain(at(0))
	for !x.Step(&w) {
	}
	if o, _ := x.Got(&w); o != parks.PaLate || w.Cells.Peek(lock3) != 0 {
		t.Errorf("without a clock its tick is 0: %d", o)
	}
	x = plain(at(1))
	for range 20 {
		x.Step(&w)
	}
	if !x.Parked() {
		t.Error("without a clock tick 1 does not come")
	}
}

// R1: a world is used in the step that it is handed to, and in no other.
func TestTwoWorlds(t *testing.T) {
	here, there := world(t, 0), world(t, 0)
	x := plain(at(4))
	for range 4 {
		x.Step(here)
	}
	x.Step(there)
	if there.Steps() != 1 || here.Steps() != 4 || len(here.Tables.Queue(bucket(2, 3))) != 0 || here.Notes.Count() != 0 {
		t.Error("line 5 is not where it was handed")
	}
	if got := there.Tables.Queue(bucket(2, 3)); !slices.Equal(got, []lines.Entry{entry(me, one, mine)}) || there.Notes.Count() != 1 {
		t.Errorf("line 5 put %v, and %d notes", got, there.Notes.Count())
	}
	x.Step(here)
	there.Clock.Tick(4)
	if x.Step(here); !here.Permits.Asleep(myLot) || there.Permits.Asleep(myLot) || here.Cells.Peek(lock3) != 0 {
		t.Error("lines 6 and 8 are not where they were handed")
	}
	if x.Step(there); x.Parked() {
		t.Error("the deadline came there")
	}
}
