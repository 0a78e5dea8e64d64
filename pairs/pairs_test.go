package pairs

import (
	"math"
	"slices"
	"testing"

	"layby/api"
	"layby/cells"
	"layby/links"
	"layby/permits"
	"layby/tables"
	"layby/wordfrees"
	"layby/wordlocks"
	"layby/worlds"
)

// me: whose operations are looked at mostly, and its parker of words.
const (
	me       = 5
	myParker = 2*me + 1
)

// Keys: one and its neighbour are in bucket 3 of the table of 2 bits, the other one is in bucket 1, key 0 in 0, key 1 in 2.
const (
	one       api.Addr = 1152
	neighbour api.Addr = 1168
	other     api.Addr = 1156
)

// upper: a bit that no key has.
const upper uint64 = 1 << 32

// bitsOf a word, by plain numbers.
func bitsOf(word uint64) int {
	for bits := 2; bits <= 8; bits++ {
		if word == uint64(bits) {
			return bits
		}
	}
	return 2
}

// placeOf a key by a word, by plain numbers.
func placeOf(key api.Addr, word uint64) tables.Place {
	bits := bitsOf(word)
	return tables.Place{Bits: bits, Bucket: int(uint64(key) * 11400714819323198485 / (1 << (64 - bits)))}
}

// lockAt a place, by plain numbers; 0 where there is no such place.
func lockAt(p tables.Place) api.Addr {
	if p.Bits < 2 || p.Bits > 8 || p.Bucket < 0 || p.Bucket >= 1<<p.Bits {
		return 0
	}
	return api.Addr(256 + 1<<p.Bits + p.Bucket)
}

// lockOf a key by a word, by plain numbers.
func lockOf(key api.Addr, word uint64) api.Addr {
	return lockAt(placeOf(key, word))
}

// inTurn: locks of two keys by a word, the lower bucket's first; one alone, if both are one.
func inTurn(key, second api.Addr, word uint64) []api.Addr {
	locks := []api.Addr{lockOf(key, word), lockOf(second, word)}
	slices.Sort(locks)
	return slices.Compact(locks)
}

// The keys stand as it is said of them.
func TestKeysAreApart(t *testing.T) {
	for key, want := range map[api.Addr]api.Addr{one: 263, neighbour: 263, other: 261, 0: 260, 1: 262} {
		if got := lockOf(key, 2); got != want {
			t.Errorf("key %d: %d", key, got)
		}
	}
	if lockOf(one, 8) == lockOf(neighbour, 8) || lockOf(one, 3) == lockOf(one, 2) {
		t.Error(lockOf(one, 8), lockOf(neighbour, 8))
	}
}

// tableWords of all sorts.
func tableWords() []uint64 {
	out := []uint64{upper, upper + 2, upper + 3, upper + 8, 1<<63 + 4, math.MaxUint64, 255, 258, 1<<31 + 5}
	for word := range uint64(12) {
		out = append(out, word)
	}
	return out
}

// world of a Spin.
func world(t *testing.T, spin int) *worlds.World {
	t.Helper()
	w, e := worlds.New(worlds.Config{Spin: spin, Most: 5, Draws: []uint64{3, 1, 4}})
	if w == nil || e != 0 {
		t.Fatalf("no world of Spin %d: %d", spin, e)
	}
	return w
}

// stepper: a Pair, an Apart, a Lock.
type stepper interface {
	Step(w *worlds.World) bool
	Over() bool
}

// got by a Pair: the places; by another one nothing.
func got(x stepper) (p, q tables.Place) {
	if pair, is := x.(*Pair); is {
		return pair.Got()
	}
	return tables.Place{}, tables.Place{}
}

// saw: what a step is to have done, by plain numbers.
type saw struct {
	access api.Access   // of a step that is an access
	call   permits.Call // of a step that is a call
	over   bool
}

// last: a step behind which it is over.
func last(s saw) saw {
	s.over = true
	return s
}

// Accesses and calls.

func loaded(a api.Addr, found uint64) saw {
	return saw{access: api.Access{Kind: api.AcLoad, Addr: a, Was: found, Is: found}}
}

func cas(a api.Addr, was, is uint64) saw {
	return saw{access: api.Access{Kind: api.AcCAS, Addr: a, Was: was, Is: is}}
}

func add(a api.Addr, was, is uint64) saw {
	return saw{access: api.Access{Kind: api.AcAdd, Addr: a, Was: was, Is: is}}
}

func and(a api.Addr, was, is uint64) saw {
	return saw{access: api.Access{Kind: api.AcAnd, Addr: a, Was: was, Is: is}}
}

func called(k permits.CallKind, parker int) saw {
	return saw{call: permits.Call{Kind: k, Parker: parker}}
}

func nothing() saw { return saw{} }

// checkSaw: that the next step of an operation does just that, and that it has got nothing ahead of it.
func checkSaw(t *testing.T, i int, x stepper, w *worlds.World, want saw) {
	t.Helper()
	if p, q := got(x); !x.Over() && (p != tables.Place{} || q != tables.Place{}) {
		t.Errorf("step %d: ahead of it the places are %+v, %+v", i, p, q)
	}
	accesses, calls := w.Cells.Count(), w.Permits.Count()
	if over := x.Step(w); over != want.over || x.Over() != want.over {
		t.Errorf("step %d: %v, Over = %v", i, over, x.Over())
	}
	if want.access != (api.Access{}) {
		accesses++
		if got := w.Cells.Last(); got != want.access {
			t.Errorf("step %d: the access %+v, want %+v", i, got, want.access)
		}
	}
	if want.call != (permits.Call{}) {
		calls++
		if got := w.Permits.Last(); got != want.call {
			t.Errorf("step %d: the call %+v, want %+v", i, got, want.call)
		}
	}
	if w.Cells.Count() != accesses || w.Permits.Count() != calls {
		t.Errorf("step %d: %d accesses, %d calls; want %d, %d", i, w.Cells.Count(), w.Permits.Count(), accesses, calls)
	}
}

// do: something of somebody else, ahead of a step.
type do func(w *worlds.World)

// stored at an address.
func stored(a api.Addr, v uint64) do {
	return func(w *worlds.World) { w.Cells.Store(a, v) }
}

// both, one behind the other.
func both(first, second do) do {
	return func(w *worlds.World) {
		first(w)
		second(w)
	}
}

// unparked: a parker is.
func unparked(parker int) do {
	return func(w *worlds.World) { w.Permits.Unpark(parker) }
}

// queued: a thread is pushed, alone, for a lock that somebody has.
func queued(thread int, a api.Addr) do {
	return func(w *worlds.World) {
		w.Links.Push(thread, -1)
		w.Cells.Store(a, 4*uint64(thread+1)+1)
	}
}

// checkWay: that an operation does just that, where somebody else does something ahead of some steps; behind that it is over, and does nothing.
func checkWay(t *testing.T, w *worlds.World, x stepper, way []saw, ahead map[int]do) {
	t.Helper()
	if x.Over() {
		t.Error("over ahead of its first step")
	}
	for i, one := range way {
		if is := ahead[i+1]; is != nil {
			is(w)
		}
		checkSaw(t, i+1, x, w, one)
	}
	p, q := got(x)
	for i := range 3 {
		w.Cells.Store(api.CellTable, uint64(4+i))
		checkSaw(t, len(way)+1+i, x, w, last(nothing()))
		if !x.Step(nil) {
			t.Error("not over in no world")
		}
		if is, is2 := got(x); is != p || is2 != q {
			t.Errorf("behind further steps the places are %+v, %+v; they were %+v, %+v", is, is2, p, q)
		}
	}
}

// checkGot: that a Pair has got two keys' places by a word, the first key's first.
func checkGot(t *testing.T, x *Pair, key, second api.Addr, word uint64) {
	t.Helper()
	if p, q := x.Got(); p != placeOf(key, word) || q != placeOf(second, word) {
		t.Errorf("the places are %+v, %+v; want %+v, %+v", p, q, placeOf(key, word), placeOf(second, word))
	}
}

// The chapter's examples.
func TestExamples(t *testing.T) {
	for _, c := range []struct {
		key, second api.Addr
		steps, back int
	}{{1152, 1152, 3, 1}, {1152, 1168, 3, 1}, {1152, 1156, 4, 2}, {1156, 1152, 4, 2}, {0, 1, 4, 2}} {
		w := world(t, 0)
		x := NewPair(0, c.key, c.second)
		for i := range c.steps {
			if p, q := x.Got(); p != (tables.Place{}) || q != p || x.Over() {
				t.Errorf("ahead of step %d: %+v, %+v", i+1, p, q)
			}
			x.Step(w)
		}
		p, q := x.Got()
		if !x.Over() || w.Steps() != c.steps || w.Cells.Peek(lockAt(p)) != 1 || w.Cells.Peek(lockAt(q)) != 1 {
			t.Errorf("keys %d, %d: over: %v, %d steps", c.key, c.second, x.Over(), w.Steps())
		}
		y := NewApart(p, q)
		for range c.back {
			if y.Over() {
				t.Errorf("keys %d, %d: apart too early", c.key, c.second)
			}
			y.Step(w)
		}
		if !y.Over() || w.Steps() != c.steps+c.back || w.Cells.Peek(lockAt(p)) != 0 || w.Cells.Peek(lockAt(q)) != 0 {
			t.Errorf("keys %d, %d: apart: %v, %d steps", c.key, c.second, y.Over(), w.Steps())
		}
	}
}

// P16.1, P16.2: by themselves, whatever the table's word and the keys are: a load, a CAS, a load, and a CAS more where the buckets are two, the lower one's first;
// then a sum for each, the first key's first.
func TestByThemselves(t *testing.T) {
	keys := []api.Addr{0, 1, 2, one, neighbour, other, api.CellTable, api.CellKey, 1024, 1056, 1057, 1 << 31, math.MaxUint32}
	for _, word := range tableWords() {
		for _, key := range keys {
			for _, second := range keys {
				thread := []int{0, me, 63}[(uint64(key)+uint64(second)+word)%3]
				w := world(t, 0)
				w.Cells.Store(0, word)
				locks := inTurn(key, second, word)
				x := NewPair(thread, key, second)
				checkSaw(t, 1, x, w, loaded(0, word))
				checkSaw(t, 2, x, w, cas(locks[0], 0, 1))
				if len(locks) == 1 {
					checkSaw(t, 3, x, w, last(loaded(0, word)))
				} else {
					checkSaw(t, 3, x, w, loaded(0, word))
					checkSaw(t, 4, x, w, last(cas(locks[1], 0, 1)))
				}
				checkGot(t, x, key, second, word)

				y := NewApart(x.Got())
				if len(locks) == 1 {
					checkSaw(t, 5, y, w, last(add(locks[0], 1, 0)))
					continue
				}
				checkSaw(t, 5, y, w, add(lockOf(key, word), 1, 0))
				checkSaw(t, 6, y, w, last(add(lockOf(second, word), 1, 0)))
			}
		}
	}
}

// P16.1: somebody else stores the table's word, has a lock, and so on, ahead of each line, by plain numbers.
func TestPairMeanwhile(t *testing.T) {
	const low, high = 261, 263 // the other one's, and one's and its neighbour's, by 2 bits
	low3, high3 := lockOf(other, 3), lockOf(one, 3)
	low8, high8 := lockOf(other, 8), lockOf(one, 8)
	for name, c := range map[string]struct {
		spin   int
		second api.Addr
		way    []saw
		ahead  map[int]do
		word   uint64
	}{
		"another table ahead of line 1": {0, other, []saw{loaded(0, 3), cas(low3, 0, 1), loaded(0, 3), last(cas(high3, 0, 1))}, map[int]do{1: stored(0, 3)}, 3},
		"another table ahead of line 2": {0, other, []saw{loaded(0, 2), cas(low, 0, 1), loaded(0, 3), add(low, 1, 0), loaded(0, 3), cas(low3, 0, 1), loaded(0, 3), last(cas(high3, 0, 1))}, map[int]do{2: stored(0, 3)}, 3},
		"another table ahead of line 3": {0, other, []saw{loaded(0, 2), cas(low, 0, 1), loaded(0, 3), add(low, 1, 0), loaded(0, 3), cas(low3, 0, 1), loaded(0, 3), last(cas(high3, 0, 1))}, map[int]do{3: stored(0, 3)}, 3},
		"another table ahead of line 4": {0, other, []saw{loaded(0, 2), cas(low, 0, 1), loaded(0, 2), last(cas(high, 0, 1))}, map[int]do{4: stored(0, 3)}, 2},
		"another table ahead of line 5": {0, other, []saw{loaded(0, 2), cas(low, 0, 1), loaded(0, 3), add(low, 1, 0), loaded(0, 8), cas(low8, 0, 1), loaded(0, 8), last(cas(high8, 0, 1))}, map[int]do{3: stored(0, 3), 4: stored(0, 8)}, 8},
		"the same bits by another word": {0, other, []saw{loaded(0, 2), cas(low, 0, 1), loaded(0, 1), add(low, 1, 0), loaded(0, 1), cas(low, 0, 1), loaded(0, 1), last(cas(high, 0, 1))}, map[int]do{3: stored(0, 1)}, 2},
		"a word that says none":         {0, other, []saw{loaded(0, 2), cas(low, 0, 1), loaded(0, 9), add(low, 1, 0), loaded(0, 9), cas(low, 0, 1), loaded(0, 9), last(cas(high, 0, 1))}, map[int]do{2: stored(0, 9)}, 2},
		"2, by its lower half alone":    {0, other, []saw{loaded(0, 2), cas(low, 0, 1), loaded(0, upper+2), add(low, 1, 0), loaded(0, upper+2), cas(low, 0, 1), loaded(0, upper+2), last(cas(high, 0, 1))}, map[int]do{3: stored(0, upper+2)}, 2},
		"there and back again":          {0, other, []saw{loaded(0, 2), cas(low, 0, 1), loaded(0, 2), last(cas(high, 0, 1))}, map[int]do{2: stored(0, 3), 3: stored(0, 2)}, 2},
		"back again ahead of line 5":    {0, other, []saw{loaded(0, 2), cas(low, 0, 1), loaded(0, 3), add(low, 1, 0), loaded(0, 2), cas(low, 0, 1), loaded(0, 2), last(cas(high, 0, 1))}, map[int]do{3: stored(0, 3), 4: stored(0, 2)}, 2},
		"twice": {0, other, []saw{loaded(0, 2), cas(low, 0, 1), loaded(0, 3), add(low, 1, 0), loaded(0, 3), cas(low3, 0, 1), loaded(0, 8), add(low3, 1, 0), loaded(0, 8), cas(low8, 0, 1), loaded(0, 8), last(cas(high8, 0, 1))},
			map[int]do{3: stored(0, 3), 6: stored(0, 8)}, 8},

		"one twice, another table ahead of line 2": {0, one, []saw{loaded(0, 2), cas(high, 0, 1), loaded(0, 3), add(high, 1, 0), loaded(0, 3), cas(high3, 0, 1), last(loaded(0, 3))}, map[int]do{2: stored(0, 3)}, 3},
		"one twice, another table ahead of line 3": {0, one, []saw{loaded(0, 2), cas(high, 0, 1), loaded(0, 3), add(high, 1, 0), loaded(0, 3), cas(high3, 0, 1), last(loaded(0, 3))}, map[int]do{3: stored(0, 3)}, 3},
		"one bucket, the same bits":                {0, neighbour, []saw{loaded(0, 2), cas(high, 0, 1), loaded(0, 0), add(high, 1, 0), loaded(0, 0), cas(high, 0, 1), last(loaded(0, 0))}, map[int]do{3: stored(0, 0)}, 2},
		"one bucket, then two": {0, neighbour, []saw{loaded(0, 2), cas(high, 0, 1), loaded(0, 8), add(high, 1, 0), loaded(0, 8), cas(inTurn(one, neighbour, 8)[0], 0, 1), loaded(0, 8), last(cas(inTurn(one, neighbour, 8)[1], 0, 1))},
			map[int]do{3: stored(0, 8)}, 8},
		"two buckets, then one": {0, neighbour, []saw{loaded(0, 8), cas(inTurn(one, neighbour, 8)[0], 0, 1), loaded(0, 2), add(inTurn(one, neighbour, 8)[0], 1, 0), loaded(0, 2), cas(high, 0, 1), last(loaded(0, 2))},
			map[int]do{1: stored(0, 8), 3: stored(0, 2)}, 2},

		"somebody has the first one, and frees it": {0, other, []saw{loaded(0, 2), cas(low, 1, 1), called(permits.CaPrepare, myParker), cas(low, 0, 0), cas(low, 0, 1), loaded(0, 2), last(cas(high, 0, 1))},
			map[int]do{2: stored(low, 1), 4: stored(low, 0)}, 2},
		"somebody has the other one, and frees it": {0, other, []saw{loaded(0, 2), cas(low, 0, 1), loaded(0, 2), cas(high, 1, 1), called(permits.CaPrepare, myParker), cas(high, 0, 0), last(cas(high, 0, 1))},
			map[int]do{4: stored(high, 1), 6: stored(high, 0)}, 2},
		"two spins at the first one": {2, other, []saw{loaded(0, 2), cas(low, 1, 1), loaded(low, 1), loaded(low, 0), cas(low, 0, 1), loaded(0, 2), last(cas(high, 0, 1))}, map[int]do{2: stored(low, 1), 4: stored(low, 0)}, 2},
		"two spins at the other one": {2, other, []saw{loaded(0, 2), cas(low, 0, 1), loaded(0, 2), cas(high, 1, 1), loaded(high, 1), loaded(high, 0), last(cas(high, 0, 1))}, map[int]do{4: stored(high, 1), 6: stored(high, 0)}, 2},
		"a spin at each": {1, other, []saw{loaded(0, 2), cas(low, 1, 1), loaded(low, 0), cas(low, 0, 1), loaded(0, 2), cas(high, 1, 1), loaded(high, 1), called(permits.CaPrepare, myParker), cas(high, 40, 40), last(cas(high, 40, 41))},
			map[int]do{2: both(stored(low, 1), stored(high, 1)), 3: stored(low, 0), 9: stored(high, 40)}, 2},
		"asleep for the first one": {1, other, []saw{loaded(0, 2), cas(low, 1, 1), loaded(low, 1), called(permits.CaPrepare, myParker), cas(low, 1, 25), called(permits.CaPark, myParker), called(permits.CaPark, myParker),
			called(permits.CaPark, myParker), loaded(low, 0), cas(low, 0, 1), loaded(0, 2), last(cas(high, 0, 1))}, map[int]do{2: stored(low, 1), 8: both(unparked(myParker), stored(low, 0))}, 2},
		"asleep for the other one": {1, other, []saw{loaded(0, 2), cas(low, 0, 1), loaded(0, 2), cas(high, 1, 1), loaded(high, 1), called(permits.CaPrepare, myParker), cas(high, 1, 25), called(permits.CaPark, myParker), called(permits.CaPark, myParker),
			called(permits.CaPark, myParker), loaded(high, 0), last(cas(high, 0, 1))}, map[int]do{4: stored(high, 1), 10: both(unparked(myParker), stored(high, 0))}, 2},
		"a permit ahead of the Park": {0, other, []saw{loaded(0, 2), cas(low, 0, 1), loaded(0, 2), cas(high, 1, 1), called(permits.CaPrepare, myParker), cas(high, 1, 25), called(permits.CaPark, myParker), loaded(high, 0), last(cas(high, 0, 1))},
			map[int]do{4: stored(high, 1), 7: both(unparked(myParker), stored(high, 0))}, 2},
		"asleep for the first one, the table is another one": {0, other, []saw{loaded(0, 2), cas(low, 1, 1), called(permits.CaPrepare, myParker), cas(low, 1, 25), called(permits.CaPark, myParker),
			called(permits.CaPark, myParker), loaded(low, 0), cas(low, 0, 1), loaded(0, 3), add(low, 1, 0), loaded(0, 3), cas(low3, 0, 1), loaded(0, 3), last(cas(high3, 0, 1))},
			map[int]do{2: stored(low, 1), 6: both(stored(0, 3), both(unparked(myParker), stored(low, 0)))}, 3},
		"asleep for the other one, the table is another one": {0, other, []saw{loaded(0, 2), cas(low, 0, 1), loaded(0, 2), cas(high, 1, 1), called(permits.CaPrepare, myParker), cas(high, 1, 25), called(permits.CaPark, myParker),
			called(permits.CaPark, myParker), loaded(high, 0), last(cas(high, 0, 1))},
			map[int]do{4: stored(high, 1), 8: both(stored(0, 3), both(unparked(myParker), stored(high, 0)))}, 2},
		"asleep for one alone": {0, neighbour, []saw{loaded(0, 2), cas(high, 1, 1), called(permits.CaPrepare, myParker), cas(high, 1, 25), called(permits.CaPark, myParker), called(permits.CaPark, myParker), loaded(high, 0), cas(high, 0, 1), last(loaded(0, 2))},
			map[int]do{2: stored(high, 1), 6: both(unparked(myParker), stored(high, 0))}, 2},

		"one is queued as it leaves": {0, other, []saw{loaded(0, 2), cas(low, 0, 1), loaded(0, 3), add(low, 41, 40), loaded(low, 40), cas(low, 40, 42), cas(low, 42, 0), called(permits.CaUnpark, 19),
			loaded(0, 3), cas(low3, 0, 1), loaded(0, 3), last(cas(high3, 0, 1))}, map[int]do{3: both(stored(0, 3), queued(9, low))}, 3},
		"two are queued as it leaves": {0, other, []saw{loaded(0, 2), cas(low, 0, 1), loaded(0, 3), add(low, 33, 32), loaded(low, 32), cas(low, 32, 34), and(low, 34, 32), called(permits.CaUnpark, 19),
			loaded(0, 3), cas(low3, 0, 1), loaded(0, 3), last(cas(high3, 0, 1))}, map[int]do{3: both(stored(0, 3), both(queued(9, low), func(w *worlds.World) {
			w.Links.Push(7, 9)
			w.Cells.Store(low, 33)
		}))}, 3},
		"locked as it leaves": {0, other, []saw{loaded(0, 2), cas(low, 0, 1), loaded(0, 3), add(low, 41, 40), loaded(low, 41), cas(low, 41, 43), cas(low, 43, 41),
			loaded(0, 3), cas(low3, 0, 1), loaded(0, 3), last(cas(high3, 0, 1))}, map[int]do{3: both(stored(0, 3), queued(9, low)), 5: stored(low, 41)}, 3},
	} {
		t.Run(name, func(t *testing.T) {
			w, x := world(t, c.spin), NewPair(me, one, c.second)
			checkWay(t, w, x, c.way, c.ahead)
			checkGot(t, x, one, c.second, c.word)

			// The keys the other way round: the same steps.
			w, x = world(t, c.spin), NewPair(me, c.second, one)
			checkWay(t, w, x, c.way, c.ahead)
			checkGot(t, x, c.second, one, c.word)
		})
	}
}

// at a bucket of a table.
func at(bits, bucket int) tables.Place {
	return tables.Place{Bits: bits, Bucket: bucket}
}

// P16.2: places whose locks are had, or not, where threads are queued, of one table or of two, that are none, or one: the first one's lock goes first, whichever is lower.
func TestApartMeanwhile(t *testing.T) {
	has := func(a ...api.Addr) do {
		return func(w *worlds.World) {
			for _, one := range a {
				w.Cells.Store(one, 1)
			}
		}
	}
	woken := func(a api.Addr) []saw {
		return []saw{add(a, 41, 40), loaded(a, 40), cas(a, 40, 42), cas(a, 42, 0), called(permits.CaUnpark, 19)}
	}
	for name, c := range map[string]struct {
		p, q  tables.Place
		way   []saw
		ahead map[int]do
	}{
		"both had":                 {at(2, 1), at(2, 3), []saw{add(261, 1, 0), last(add(263, 1, 0))}, map[int]do{1: has(261, 263)}},
		"the higher one first":     {at(2, 3), at(2, 1), []saw{add(263, 1, 0), last(add(261, 1, 0))}, map[int]do{1: has(261, 263)}},
		"one place":                {at(2, 3), at(2, 3), []saw{last(add(263, 1, 0))}, map[int]do{1: has(263)}},
		"one bucket of two tables": {at(3, 3), at(2, 3), []saw{add(267, 1, 0), last(add(263, 1, 0))}, map[int]do{1: has(263, 267)}},
		"the last ones":            {at(8, 255), at(8, 0), []saw{add(767, 1, 0), last(add(512, 1, 0))}, map[int]do{1: has(512, 767)}},
		"nobody has the first one": {at(2, 1), at(2, 3), []saw{add(261, 0, math.MaxUint64), last(add(263, 1, 0))}, map[int]do{1: has(263)}},
		"another table counts":     {at(2, 1), at(2, 3), []saw{add(261, 1, 0), last(add(263, 1, 0))}, map[int]do{1: both(has(261, 263), stored(0, 3)), 2: stored(0, 8)}},
		"somebody takes the first one as it goes": {at(2, 1), at(2, 3), []saw{add(261, 1, 0), last(add(263, 1, 0))},
			map[int]do{1: has(261, 263), 2: has(261)}},

		"one queued at the first one":            {at(2, 1), at(2, 3), append(woken(261), last(add(263, 1, 0))), map[int]do{1: both(has(263), queued(9, 261))}},
		"one queued at the other one":            {at(2, 1), at(2, 3), append([]saw{add(261, 1, 0)}, append(woken(263)[:4:4], last(called(permits.CaUnpark, 19)))...), map[int]do{1: both(has(261), queued(9, 263))}},
		"one queued at one place":                {at(2, 1), at(2, 1), append(woken(261)[:4:4], last(called(permits.CaUnpark, 19))), map[int]do{1: queued(9, 261)}},
		"one comes to the other one meanwhile":   {at(2, 3), at(2, 1), append([]saw{add(263, 1, 0)}, append(woken(261)[:4:4], last(called(permits.CaUnpark, 19)))...), map[int]do{1: has(261, 263), 2: queued(9, 261)}},
		"somebody goes through the first queue":  {at(2, 3), at(2, 1), []saw{add(263, 43, 42), last(add(261, 1, 0))}, map[int]do{1: both(has(261), both(queued(9, 263), stored(263, 43)))}},
		"somebody locks the first one meanwhile": {at(2, 3), at(2, 1), []saw{add(263, 41, 40), loaded(263, 40), cas(263, 41, 41), cas(263, 41, 43), cas(263, 43, 41), last(add(261, 1, 0))}, map[int]do{1: both(has(261), queued(9, 263)), 3: stored(263, 41)}},

		"no place, twice":           {at(0, 0), at(0, 0), []saw{last(add(0, 2, 1))}, nil},
		"two that are none":         {at(0, 0), at(2, 4), []saw{add(0, 2, 1), last(add(0, 1, 0))}, nil},
		"the first one is none":     {at(9, 0), at(2, 3), []saw{add(0, 2, 1), last(add(263, 1, 0))}, map[int]do{1: has(263)}},
		"the other one is none":     {at(2, 3), at(2, -1), []saw{add(263, 1, 0), last(add(0, 2, 1))}, map[int]do{1: has(263)}},
		"none, far off":             {at(math.MaxInt, math.MinInt), at(math.MinInt, math.MaxInt), []saw{add(0, 2, 1), last(add(0, 1, 0))}, nil},
		"none, by a table too many": {at(1<<32+2, 0), at(2, 1<<32), []saw{add(0, 2, 1), last(add(0, 1, 0))}, nil},
	} {
		t.Run(name, func(t *testing.T) {
			checkWay(t, world(t, 0), NewApart(c.p, c.q), c.way, c.ahead)
		})
	}
}

// P16.2: what a Pair has got goes free, each one's lock once, and no other one.
func TestApartOfEachPair(t *testing.T) {
	for _, bits := range []int{2, 3, 5} {
		for p := range 1 << bits {
			for q := range 1 << bits {
				w := world(t, 0)
				for i := range 1 << bits {
					w.Cells.Store(lockAt(at(bits, i)), 1)
				}
				x, steps := NewApart(at(bits, p), at(bits, q)), w.Steps()
				for !x.Step(w) {
				}
				want := 2
				if p == q {
					want = 1
				}
				if w.Steps() != steps+want {
					t.Errorf("%d, %d of %d bits: %d steps", p, q, bits, w.Steps()-steps)
				}
				for i := range 1 << bits {
					if is := w.Cells.Peek(lockAt(at(bits, i))); (is == 0) != (i == p || i == q) || is > 1 {
						t.Errorf("%d, %d of %d bits: lock %d is %d", p, q, bits, i, is)
					}
				}
			}
		}
	}
}

// P16.1: where nothing of the table changes, it is over in the steps of its Locks, and two loads: also if it had to wait for one, or for both.
func TestLoadsMore(t *testing.T) {
	for spin := range 3 {
		for first := range 10 {
			for second := range 10 {
				low, high := lockOf(other, 2), lockOf(one, 2)
				alone, w := world(t, spin), world(t, spin)
				wantFirst := stepsTill(alone, wordlocks.NewLock(me, low), frees{first + 1: low})
				wantSecond := stepsTill(alone, wordlocks.NewLock(me, high), frees{second + 1: high})
				x := NewPair(me, one, other)
				n := stepsTill(w, x, frees{first + 2: low, wantFirst + second + 3: high})
				if want := wantFirst + wantSecond + 2; n != want {
					t.Errorf("Spin %d, had for %d and %d steps: over in %d steps, want %d", spin, first, second, n, want)
				}
				y := NewPair(me, one, neighbour)
				if n := stepsTill(world(t, spin), y, frees{first + 2: high}); n != wantFirst+2 {
					t.Errorf("Spin %d, had for %d steps: over in %d steps, want %d", spin, first, n, wantFirst+2)
				}
			}
		}
	}
}

// frees: which lock another one gives back ahead of which step.
type frees map[int]api.Addr

// stepsTill it is over: the locks are had by another one till then.
func stepsTill(w *worlds.World, x stepper, back frees) int {
	for _, lock := range back {
		wordlocks.NewLock(9, lock).Step(w)
	}
	for n := 1; n < 100; n++ {
		if lock, is := back[n]; is {
			for free := wordfrees.NewFree(lock); !free.Step(w); {
			}
		}
		if x.Step(w) {
			return n
		}
	}
	return -1
}

// noThreads: numbers that are no thread's.
func noThreads() []int {
	return []int{-1, -2, 64, 65, 128, 1 << 32, -1 << 32, 1<<32 + 5, math.MinInt, math.MaxInt}
}

// R3: what is of no thread, of none, and of one that no call made is over, does nothing, and has nothing.
func TestOverFromTheStart(t *testing.T) {
	all := []stepper{(*Pair)(nil), (*Apart)(nil), &Pair{}, &Apart{}}
	for _, thread := range noThreads() {
		all = append(all, NewPair(thread, one, other), NewPair(thread, other, one), NewPair(thread, one, one), NewPair(thread, 0, 0))
	}
	w := world(t, 2)
	before := w.Cells.Words()
	for i, x := range all {
		for _, in := range []*worlds.World{w, nil, {}} {
			if p, q := got(x); !x.Over() || !x.Step(in) || !x.Over() || p != (tables.Place{}) || q != p {
				t.Errorf("%d: over: %v, %+v, %+v", i, x.Over(), p, q)
			}
		}
		if p, q := got(x); p != (tables.Place{}) || q != p {
			t.Errorf("%d: behind its steps: %+v, %+v", i, p, q)
		}
	}
	if w.Steps() != 0 || !slices.Equal(w.Cells.Words(), before) {
		t.Error("they do something")
	}
	checkQuiet(t, w, 2)
}

// P16.1: of each thread it is not over, and it is that thread that waits, for the first lock or for the other one.
func TestEachThread(t *testing.T) {
	for thread := range 64 {
		for _, had := range []api.Addr{261, 263} {
			w := world(t, 0)
			w.Cells.Store(had, 1)
			x := NewPair(thread, one, other)
			for range 9 {
				if x.Over() || x.Step(w) {
					t.Fatalf("thread %d is over", thread)
				}
			}
			if word := w.Cells.Peek(had); !w.Permits.Asleep(2*thread+1) || word != 4*uint64(thread+1)+1 || w.Links.At(thread).Tail != thread {
				t.Errorf("thread %d: lock %d is %d", thread, had, word)
			}
			if word := w.Cells.Peek(261 + 263 - had); word != uint64(had-261)/2 {
				t.Errorf("thread %d waits for %d, and the other lock is %d", thread, had, word)
			}
		}
	}
}

// checkQuiet: that a world has what no Pair and no Apart changes, as at first.
func checkQuiet(t *testing.T, w *worlds.World, spin int) {
	t.Helper()
	if w.Notes.Count() != 0 || w.Clock.Now() != 0 || w.Clock.Left() != 3 || w.Spin != spin || w.Tokens != [64]uint64{} {
		t.Fatalf("%d notes, tick %d, %d draws, Spin %d, tokens %v", w.Notes.Count(), w.Clock.Now(), w.Clock.Left(), w.Spin, w.Tokens)
	}
	for bits := range 10 {
		if w.Tables.Has(bits) != (bits == 2) {
			t.Fatalf("tables of %d bits", bits)
		}
	}
	for i := range 4 {
		at := tables.Place{Bits: 2, Bucket: i}
		if w.Tables.Timer(at).At != 0 || w.Tables.Timer(at).Fired != 0 || len(w.Tables.Queue(at)) != 0 {
			t.Fatalf("bucket %d is not as at first", i)
		}
	}
}

// R3: a world that no call made has nothing, and takes nothing: there no CAS is done, and a lock is free ahead of the step that frees it.
func TestWorldThatNoCallMade(t *testing.T) {
	for _, second := range []api.Addr{one, neighbour, other} {
		var empty worlds.World
		x := NewPair(me, one, second)
		for range 30 {
			if p, q := x.Got(); x.Step(&empty) || x.Over() || p != (tables.Place{}) || q != p {
				t.Fatal("a Pair is over")
			}
		}
		y := NewApart(placeOf(one, 2), placeOf(other, 2))
		if y.Step(&empty) || !y.Step(&empty) {
			t.Error("an Apart is not over in two steps")
		}
		if empty != (worlds.World{}) {
			t.Errorf("the world has something: %v", empty)
		}
	}
}

// R3: worlds that lack a part: what there is is used.
func TestWorldsThatLackSomething(t *testing.T) {
	for i, w := range []worlds.World{
		{Cells: cells.New()}, {Cells: &cells.Cells{}}, {Cells: cells.New(), Permits: &permits.Set{}}, {Cells: cells.New(), Links: links.New()},
	} {
		x := NewPair(me, one, other)
		steps := 1
		for ; !x.Step(&w) && steps < 20; steps++ {
		}
		checkGot(t, x, one, other, 0)
		if steps != 4 || w.Cells.Peek(261) != 1 || w.Cells.Peek(263) != 1 {
			t.Errorf("world %d: %d steps", i, steps)
		}
		y := NewApart(x.Got())
		for ; !y.Step(&w) && steps < 20; steps++ {
		}
		if steps != 5 || w.Cells.Peek(261) != 0 || w.Cells.Peek(263) != 0 {
			t.Errorf("world %d: %d steps", i, steps)
		}
	}
}

// R1: a world is used in the step that it is handed to, and in no other.
func TestTwoWorlds(t *testing.T) {
	here, there := world(t, 0), world(t, 0)
	there.Cells.Store(0, 3)
	steps := there.Steps()
	x, y := NewPair(me, one, other), NewPair(9, one, other)
	for range 4 {
		x.Step(here)
	}
	y.Step(there)
	y.Step(here)
	y.Step(there)
	if !x.Over() || y.Over() || here.Steps() != 5 || there.Steps() != steps+2 || here.Cells.Peek(lockOf(other, 3)) != 1 || there.Cells.Peek(lockOf(other, 3)) != 0 {
		t.Error("a step is made in a world that it was not handed")
	}
	if !y.Step(there) || there.Steps() != steps+3 || there.Cells.Peek(lockOf(one, 3)) != 1 {
		t.Error("it is not over where it took the other lock")
	}
	checkGot(t, x, one, other, 2)
	checkGot(t, y, one, other, 3)
}

// R1: what a Pair has got is its own: another one, and what an Apart does, change nothing of it.
func TestSeveralAtOnce(t *testing.T) {
	w := world(t, 0)
	x, y, z := NewPair(6, one, other), NewPair(7, 1, 0), NewPair(8, 0, 0)
	for range 4 {
		x.Step(w)
		y.Step(w)
	}
	if !x.Over() || !y.Over() || z.Over() {
		t.Error("not over")
	}
	checkGot(t, x, one, other, 2)
	checkGot(t, y, 1, 0, 2)
	p, q := x.Got()
	for a := NewApart(p, q); !a.Step(w); {
	}
	for a := NewApart(y.Got()); !a.Step(w); {
	}
	for !z.Step(w) {
	}
	checkGot(t, x, one, other, 2)
	checkGot(t, y, 1, 0, 2)
	checkGot(t, z, 0, 0, 2)
	if w.Cells.Peek(260) != 1 || w.Cells.Peek(261)+w.Cells.Peek(262)+w.Cells.Peek(263) != 0 {
		t.Error("the locks are not as they should be")
	}
}
