package buckets

import (
	"math"
	"slices"
	"testing"

	"layby/api"
	"layby/cells"
	"layby/links"
	"layby/permits"
	"layby/tables"
	"layby/wordfrees"
	"layby/wordlocks"
	"layby/worlds"
)

// me: whose operations are looked at mostly, where its key stands, and its parker of words.
const (
	me       = 5
	myKey    = api.CellKey + me
	myParker = 2*me + 1
)

// Keys: one and its neighbour are in one bucket of the table of 2 bits, the other one is in another bucket.
const (
	one       api.Addr = 1152
	neighbour api.Addr = 1168
	other     api.Addr = 1156
)

// upper: a bit that no key has.
const upper uint64 = 1 << 32

// bitsOf a word, by plain numbers.
func bitsOf(word uint64) int {
	for bits := 2; bits <= 8; bits++ {
		if word == uint64(bits) {
			return bits
		}
	}
	return 2
}

// placeOf a key by a word, by plain numbers.
func placeOf(key api.Addr, word uint64) tables.Place {
	bits := bitsOf(word)
	return tables.Place{Bits: bits, Bucket: int(uint64(key) * 11400714819323198485 / (1 << (64 - bits)))}
}

// lockOf a key by a word, by plain numbers.
func lockOf(key api.Addr, word uint64) api.Addr {
	p := placeOf(key, word)
	return api.Addr(256 + 1<<p.Bits + p.Bucket)
}

// The keys stand as it is said of them.
func TestKeysAreApart(t *testing.T) {
	if lockOf(one, 2) != lockOf(neighbour, 2) || lockOf(one, 2) == lockOf(other, 2) || lockOf(one, 3) == lockOf(one, 2) {
		t.Error(lockOf(one, 2), lockOf(neighbour, 2), lockOf(other, 2))
	}
}

// tableWords of all sorts.
func tableWords() []uint64 {
	out := []uint64{upper, upper + 2, upper + 3, upper + 8, 1<<63 + 4, 1 << 63, math.MaxUint64, math.MaxUint64 - 1, 255, 256, 258, 64, 1<<31 + 5}
	for word := range uint64(20) {
		out = append(out, word)
	}
	return out
}

// P15.1: the bits of a word.
func TestBits(t *testing.T) {
	for word, want := range map[uint64]int{
		0: 2, 1: 2, 2: 2, 3: 3, 4: 4, 5: 5, 6: 6, 7: 7, 8: 8, 9: 2, 10: 2, 16: 2, 255: 2, 256: 2, 258: 2, 259: 2,
		upper: 2, upper + 3: 2, upper + 8: 2, 1 << 63: 2, 1<<63 + 5: 2, math.MaxInt64: 2, math.MaxUint64: 2, math.MaxUint64 - 4: 2,
	} {
		if got := Bits(word); got != want {
			t.Errorf("Bits(%d) = %d, want %d", word, got, want)
		}
	}
}

// P15.1: the place of keys, by words of all sorts, and its lock.
func TestPlace(t *testing.T) {
	keys := []api.Addr{0, 1, 2, 64, 127, 256, 260, 1023, 1024, 1057, one, neighbour, other, 1 << 16, 1 << 31, math.MaxUint32 - 1, math.MaxUint32}
	for i := range api.Addr(200) {
		keys = append(keys, 1024+i, i*16777259)
	}
	for _, key := range keys {
		for _, word := range tableWords() {
			want := placeOf(key, word)
			if got := Place(key, word); got != want || Lock(got) != lockOf(key, word) {
				t.Errorf("Place(%d, %d) = %+v, its lock is %d; want %+v, %d", key, word, got, Lock(got), want, lockOf(key, word))
			}
		}
	}
}

// P15.1: places by plain numbers.
func TestPlaceByNumbers(t *testing.T) {
	for _, p := range []struct {
		key  api.Addr
		word uint64
		want tables.Place
		lock api.Addr
	}{
		{0, 2, tables.Place{Bits: 2, Bucket: 0}, 260}, {0, 8, tables.Place{Bits: 8, Bucket: 0}, 512}, {0, 9, tables.Place{Bits: 2, Bucket: 0}, 260},
		{1, 8, tables.Place{Bits: 8, Bucket: 158}, 670}, {1, 7, tables.Place{Bits: 7, Bucket: 79}, 463}, {1, 2, tables.Place{Bits: 2, Bucket: 2}, 262}, {1, 1, tables.Place{Bits: 2, Bucket: 2}, 262},
	} {
		if got := Place(p.key, p.word); got != p.want || Lock(got) != p.lock {
			t.Errorf("Place(%d, %d) = %+v, its lock is %d; want %+v, %d", p.key, p.word, got, Lock(got), p.want, p.lock)
		}
	}
}

// P15.1: each place's lock; of what is no place none.
func TestLock(t *testing.T) {
	for _, bits := range []int{math.MinInt, -1 << 32, -2, -1, 0, 1, 2, 3, 4, 5, 6, 7, 8, 9, 10, 62, 63, 64, 1<<32 + 2, math.MaxInt} {
		size := 0
		if bits >= 2 && bits <= 8 {
			size = 1 << bits
		}
		for _, bucket := range []int{math.MinInt, -1 << 32, -1, size, size + 1, 256, 512, 1 << 32, math.MaxInt} {
			if bucket >= 0 && bucket < size {
				continue
			}
			if got := Lock(tables.Place{Bits: bits, Bucket: bucket}); got != 0 {
				t.Errorf("%d bits, bucket %d: %d", bits, bucket, got)
			}
		}
		for bucket := range size {
			if got := Lock(tables.Place{Bits: bits, Bucket: bucket}); got != api.Addr(256+size+bucket) {
				t.Errorf("%d bits, bucket %d: %d", bits, bucket, got)
			}
		}
	}
}

// world of a Spin.
func world(t *testing.T, spin int) *worlds.World {
	t.Helper()
	w, e := worlds.New(worlds.Config{Spin: spin, Most: 5, Draws: []uint64{3, 1, 4}})
	if w == nil || e != 0 {
		t.Fatalf("no world of Spin %d: %d", spin, e)
	}
	return w
}

// stepper: an Enter, an Own, a Lock, a Free.
type stepper interface {
	Step(w *worlds.World) bool
	Over() bool
}

// got by an Enter or an Own: the place, and of an Own the key, too.
func got(x stepper) (tables.Place, api.Addr) {
	if own, is := x.(*Own); is {
		return own.Got()
	}
	return x.(*Enter).Got(), 0
}

// saw: what a step is to have done, by plain numbers.
type saw struct {
	access api.Access   // of a step that is an access
	call   permits.Call // of a step that is a call
	over   bool
}

// last: a step behind which it is over.
func last(s saw) saw {
	s.over = true
	return s
}

// Accesses and calls.

func loaded(a api.Addr, found uint64) saw {
	return saw{access: api.Access{Kind: api.AcLoad, Addr: a, Was: found, Is: found}}
}

func cas(a api.Addr, was, is uint64) saw {
	return saw{access: api.Access{Kind: api.AcCAS, Addr: a, Was: was, Is: is}}
}

func add(a api.Addr, was, is uint64) saw {
	return saw{access: api.Access{Kind: api.AcAdd, Addr: a, Was: was, Is: is}}
}

func and(a api.Addr, was, is uint64) saw {
	return saw{access: api.Access{Kind: api.AcAnd, Addr: a, Was: was, Is: is}}
}

func called(k permits.CallKind, parker int) saw {
	return saw{call: permits.Call{Kind: k, Parker: parker}}
}

func nothing() saw { return saw{} }

// checkSaw: that the next step of an operation does just that, and that it has got nothing ahead of it.
func checkSaw(t *testing.T, i int, x stepper, w *worlds.World, want saw) {
	t.Helper()
	if p, key := got(x); !x.Over() && (p != tables.Place{} || key != 0) {
		t.Errorf("step %d: ahead of it the place is %+v, the key %d", i, p, key)
	}
	accesses, calls := w.Cells.Count(), w.Permits.Count()
	if over := x.Step(w); over != want.over || x.Over() != want.over {
		t.Errorf("step %d: %v, Over = %v", i, over, x.Over())
	}
	if want.access != (api.Access{}) {
		accesses++
		if got := w.Cells.Last(); got != want.access {
			t.Errorf("step %d: the access %+v, want %+v", i, got, want.access)
		}
	}
	if want.call != (permits.Call{}) {
		calls++
		if got := w.Permits.Last(); got != want.call {
			t.Errorf("step %d: the call %+v, want %+v", i, got, want.call)
		}
	}
	if w.Cells.Count() != accesses || w.Permits.Count() != calls {
		t.Errorf("step %d: %d accesses, %d calls; want %d, %d", i, w.Cells.Count(), w.Permits.Count(), accesses, calls)
	}
}

// do: something of somebody else, ahead of a step.
type do func(w *worlds.World)

// stored at an address.
func stored(a api.Addr, v uint64) do {
	return func(w *worlds.World) { w.Cells.Store(a, v) }
}

// both, one behind the other.
func both(first, second do) do {
	return func(w *worlds.World) {
		first(w)
		second(w)
	}
}

// unparked: a parker is.
func unparked(parker int) do {
	return func(w *worlds.World) { w.Permits.Unpark(parker) }
}

// queued: a thread is pushed, alone, for a lock that somebody has.
func queued(thread int, a api.Addr) do {
	return func(w *worlds.World) {
		w.Links.Push(thread, -1)
		w.Cells.Store(a, 4*uint64(thread+1)+1)
	}
}

// checkWay: that an operation does just that, where somebody else does something ahead of some steps; behind that it is over, and does nothing.
func checkWay(t *testing.T, w *worlds.World, x stepper, way []saw, ahead map[int]do) {
	t.Helper()
	if x.Over() {
		t.Error("over ahead of its first step")
	}
	for i, one := range way {
		if is := ahead[i+1]; is != nil {
			is(w)
		}
		checkSaw(t, i+1, x, w, one)
	}
	p, key := got(x)
	for i := range 3 {
		w.Cells.Store(api.CellTable, uint64(3+i))
		w.Cells.Store(myKey, uint64(other)+uint64(i))
		checkSaw(t, len(way)+1+i, x, w, last(nothing()))
		if !x.Step(nil) {
			t.Error("not over in no world")
		}
		if is, is2 := got(x); is != p || is2 != key {
			t.Errorf("behind further steps the place is %+v, the key %d; it was %+v, %d", is, is2, p, key)
		}
	}
}

// checkGot: that an operation has got a key's place by a word, and of an Own the key.
func checkGot(t *testing.T, x stepper, key api.Addr, word uint64) {
	t.Helper()
	p, is := got(x)
	want := key
	if _, own := x.(*Own); !own {
		want = 0
	}
	if p != placeOf(key, word) || is != want {
		t.Errorf("the place is %+v, the key %d; want %+v, %d", p, is, placeOf(key, word), want)
	}
}

// The chapter's example.
func TestExample(t *testing.T) {
	w := world(t, 0)
	x := NewEnter(3, 1152)
	for i := range 3 {
		if p := x.Got(); p != (tables.Place{}) || x.Over() {
			t.Errorf("ahead of step %d: %+v", i+1, p)
		}
		x.Step(w)
	}
	p := x.Got()
	if !x.Over() || p.Bits != 2 || w.Cells.Peek(Lock(p)) != 1 || w.Steps() != 3 {
		t.Errorf("over: %v, %+v, its lock is %d, %d steps", x.Over(), p, w.Cells.Peek(Lock(p)), w.Steps())
	}
}

// P15.2: by itself, whatever the table's word and the key are: a load, a CAS, a load.
func TestEnterByItself(t *testing.T) {
	for _, word := range tableWords() {
		for _, key := range []api.Addr{0, one, other, api.CellTable, api.CellKey, math.MaxUint32} {
			for _, thread := range []int{0, me, 63} {
				w := world(t, 0)
				w.Cells.Store(0, word)
				lock := lockOf(key, word)
				x := NewEnter(thread, key)
				checkSaw(t, 1, x, w, loaded(0, word))
				checkSaw(t, 2, x, w, cas(lock, 0, 1))
				checkSaw(t, 3, x, w, last(loaded(0, word)))
				checkGot(t, x, key, word)
				if w.Cells.Peek(lock) != 1 {
					t.Errorf("word %d, key %d: the lock is %d", word, key, w.Cells.Peek(lock))
				}
			}
		}
	}
}

// P15.3: by itself, whatever the words are: two loads, a CAS, two loads. The key is the lower half of its word.
func TestOwnByItself(t *testing.T) {
	for _, word := range tableWords() {
		for _, key := range []uint64{0, uint64(one), uint64(other), math.MaxUint32, upper, upper + uint64(one), 1<<63 + uint64(other), math.MaxUint64} {
			for _, thread := range []int{0, me, 63} {
				w := world(t, 0)
				w.Cells.Store(0, word)
				cell := api.Addr(64 + thread)
				w.Cells.Store(cell, key)
				half := api.Addr(key % upper)
				x := NewOwn(thread)
				checkSaw(t, 1, x, w, loaded(cell, key))
				checkSaw(t, 2, x, w, loaded(0, word))
				checkSaw(t, 3, x, w, cas(lockOf(half, word), 0, 1))
				checkSaw(t, 4, x, w, loaded(0, word))
				checkSaw(t, 5, x, w, last(loaded(cell, key)))
				checkGot(t, x, half, word)
				if w.Cells.Peek(lockOf(half, word)) != 1 {
					t.Errorf("word %d, key %d: the lock is %d", word, key, w.Cells.Peek(lockOf(half, word)))
				}
			}
		}
	}
}

// P15.2: somebody else stores the table's word, has the lock, and so on, ahead of each line, by plain numbers.
func TestEnterMeanwhile(t *testing.T) {
	a, b := lockOf(one, 2), lockOf(one, 3)
	for name, c := range map[string]struct {
		spin  int
		way   []saw
		ahead map[int]do
		word  uint64
	}{
		"another table ahead of line 1": {0, []saw{loaded(0, 3), cas(b, 0, 1), last(loaded(0, 3))}, map[int]do{1: stored(0, 3)}, 3},
		"another table ahead of line 2": {0, []saw{loaded(0, 2), cas(a, 0, 1), loaded(0, 3), add(a, 1, 0), loaded(0, 3), cas(b, 0, 1), last(loaded(0, 3))}, map[int]do{2: stored(0, 3)}, 3},
		"another table ahead of line 3": {0, []saw{loaded(0, 2), cas(a, 0, 1), loaded(0, 3), add(a, 1, 0), loaded(0, 3), cas(b, 0, 1), last(loaded(0, 3))}, map[int]do{3: stored(0, 3)}, 3},
		"the same bits by another word": {0, []saw{loaded(0, 2), cas(a, 0, 1), loaded(0, 1), add(a, 1, 0), loaded(0, 1), cas(a, 0, 1), last(loaded(0, 1))}, map[int]do{3: stored(0, 1)}, 2},
		"a word that says none":         {0, []saw{loaded(0, 2), cas(a, 0, 1), loaded(0, 9), add(a, 1, 0), loaded(0, 9), cas(a, 0, 1), last(loaded(0, 9))}, map[int]do{2: stored(0, 9)}, 2},
		"2, by its lower half alone":    {0, []saw{loaded(0, 2), cas(a, 0, 1), loaded(0, upper+2), add(a, 1, 0), loaded(0, upper+2), cas(a, 0, 1), last(loaded(0, upper+2))}, map[int]do{3: stored(0, upper+2)}, 2},
		"there and back again":          {0, []saw{loaded(0, 2), cas(a, 0, 1), last(loaded(0, 2))}, map[int]do{2: stored(0, 3), 3: stored(0, 2)}, 2},
		"back again ahead of line 4":    {0, []saw{loaded(0, 2), cas(a, 0, 1), loaded(0, 3), add(a, 1, 0), loaded(0, 2), cas(a, 0, 1), last(loaded(0, 2))}, map[int]do{3: stored(0, 3), 4: stored(0, 2)}, 2},
		"one more ahead of line 1": {0, []saw{loaded(0, 2), cas(a, 0, 1), loaded(0, 3), add(a, 1, 0), loaded(0, 4), cas(lockOf(one, 4), 0, 1), last(loaded(0, 4))},
			map[int]do{3: stored(0, 3), 5: stored(0, 4)}, 4},
		"twice": {0, []saw{loaded(0, 2), cas(a, 0, 1), loaded(0, 3), add(a, 1, 0), loaded(0, 3), cas(b, 0, 1), loaded(0, 8), add(b, 1, 0), loaded(0, 8), cas(lockOf(one, 8), 0, 1), last(loaded(0, 8))},
			map[int]do{3: stored(0, 3), 6: stored(0, 8)}, 8},
		"a smaller one":                 {0, []saw{loaded(0, 8), cas(lockOf(one, 8), 0, 1), loaded(0, 2), add(lockOf(one, 8), 1, 0), loaded(0, 2), cas(a, 0, 1), last(loaded(0, 2))}, map[int]do{1: stored(0, 8), 3: stored(0, 2)}, 2},
		"whatever another one's key is": {0, []saw{loaded(0, 2), cas(a, 0, 1), last(loaded(0, 2))}, map[int]do{2: stored(myKey, 7), 3: stored(myKey, 9)}, 2},

		"somebody has it, and frees it": {0, []saw{loaded(0, 2), cas(a, 1, 1), called(permits.CaPrepare, myParker), cas(a, 0, 0), cas(a, 0, 1), last(loaded(0, 2))},
			map[int]do{2: stored(a, 1), 4: stored(a, 0)}, 2},
		"two spins": {2, []saw{loaded(0, 2), cas(a, 1, 1), loaded(a, 1), loaded(a, 0), cas(a, 0, 1), last(loaded(0, 2))}, map[int]do{2: stored(a, 1), 4: stored(a, 0)}, 2},
		"a spin, and asleep": {1, []saw{loaded(0, 2), cas(a, 1, 1), loaded(a, 1), called(permits.CaPrepare, myParker), cas(a, 1, 25), called(permits.CaPark, myParker), called(permits.CaPark, myParker),
			called(permits.CaPark, myParker), loaded(a, 0), cas(a, 0, 1), last(loaded(0, 2))}, map[int]do{2: stored(a, 1), 8: both(unparked(myParker), stored(a, 0))}, 2},
		"asleep while the table is another one": {0, []saw{loaded(0, 2), cas(a, 1, 1), called(permits.CaPrepare, myParker), cas(a, 1, 25), called(permits.CaPark, myParker),
			called(permits.CaPark, myParker), loaded(a, 0), cas(a, 0, 1), loaded(0, 3), add(a, 1, 0), loaded(0, 3), cas(b, 0, 1), last(loaded(0, 3))},
			map[int]do{2: stored(a, 1), 6: both(stored(0, 3), both(unparked(myParker), stored(a, 0)))}, 3},
		"somebody has the other one's, too, and spins begin anew": {1, []saw{loaded(0, 2), cas(a, 1, 1), loaded(a, 0), cas(a, 0, 1), loaded(0, 3), add(a, 1, 0),
			loaded(0, 3), cas(b, 1, 1), loaded(b, 1), called(permits.CaPrepare, myParker), cas(b, 40, 40), cas(b, 40, 41), last(loaded(0, 3))},
			map[int]do{2: stored(a, 1), 3: stored(a, 0), 5: stored(0, 3), 8: stored(b, 1), 11: stored(b, 40)}, 3},
		"one is queued as it leaves": {0, []saw{loaded(0, 2), cas(a, 0, 1), loaded(0, 3), add(a, 41, 40), loaded(a, 40), cas(a, 40, 42), cas(a, 42, 0), called(permits.CaUnpark, 19),
			loaded(0, 3), cas(b, 0, 1), last(loaded(0, 3))}, map[int]do{3: both(stored(0, 3), queued(9, a))}, 3},
		"two are queued as it leaves": {0, []saw{loaded(0, 2), cas(a, 0, 1), loaded(0, 3), add(a, 33, 32), loaded(a, 32), cas(a, 32, 34), and(a, 34, 32), called(permits.CaUnpark, 19),
			loaded(0, 3), cas(b, 0, 1), last(loaded(0, 3))}, map[int]do{3: both(stored(0, 3), both(queued(9, a), func(w *worlds.World) {
			w.Links.Push(7, 9)
			w.Cells.Store(a, 33)
		}))}, 3},
		"locked as it leaves": {0, []saw{loaded(0, 2), cas(a, 0, 1), loaded(0, 3), add(a, 41, 40), loaded(a, 41), cas(a, 41, 43), cas(a, 43, 41), loaded(0, 3), cas(b, 0, 1), last(loaded(0, 3))},
			map[int]do{3: both(stored(0, 3), queued(9, a)), 5: stored(a, 41)}, 3},
	} {
		t.Run(name, func(t *testing.T) {
			w, x := world(t, c.spin), NewEnter(me, one)
			checkWay(t, w, x, c.way, c.ahead)
			checkGot(t, x, one, c.word)
		})
	}
}

// P15.3: somebody else stores the table's word, the thread's key, or both, has the lock, and so on, ahead of each line, by plain numbers.
func TestOwnMeanwhile(t *testing.T) {
	a, b, c := lockOf(one, 2), lockOf(other, 2), lockOf(one, 3)
	key, then := loaded(myKey, uint64(one)), loaded(myKey, uint64(other))
	// The upper half of a word is none of its key.
	same, far, turned := loaded(myKey, upper+uint64(one)), loaded(myKey, 1<<63+uint64(one)), loaded(myKey, upper+uint64(other))
	anew := []saw{then, loaded(0, 2), cas(b, 0, 1), loaded(0, 2), last(then)}
	third := []saw{key, loaded(0, 3), cas(c, 0, 1), loaded(0, 3), last(key)}
	keyed := stored(myKey, uint64(other))
	for name, o := range map[string]struct {
		spin  int
		way   []saw
		ahead map[int]do
		key   api.Addr
		word  uint64
	}{
		"another key ahead of line 1": {0, anew, map[int]do{1: keyed}, other, 2},
		"another key ahead of line 2": {0, append([]saw{key, loaded(0, 2), cas(a, 0, 1), loaded(0, 2), then, add(a, 1, 0)}, anew...), map[int]do{2: keyed}, other, 2},
		"another key ahead of line 3": {0, append([]saw{key, loaded(0, 2), cas(a, 0, 1), loaded(0, 2), then, add(a, 1, 0)}, anew...), map[int]do{3: keyed}, other, 2},
		"another key ahead of line 4": {0, append([]saw{key, loaded(0, 2), cas(a, 0, 1), loaded(0, 2), then, add(a, 1, 0)}, anew...), map[int]do{4: keyed}, other, 2},
		"another key ahead of line 5": {0, append([]saw{key, loaded(0, 2), cas(a, 0, 1), loaded(0, 2), then, add(a, 1, 0)}, anew...), map[int]do{5: keyed}, other, 2},
		"a key of the same bucket": {0, []saw{key, loaded(0, 2), cas(a, 0, 1), loaded(0, 2), loaded(myKey, uint64(neighbour)), add(a, 1, 0),
			loaded(myKey, uint64(neighbour)), loaded(0, 2), cas(a, 0, 1), loaded(0, 2), last(loaded(myKey, uint64(neighbour)))}, map[int]do{4: stored(myKey, uint64(neighbour))}, neighbour, 2},
		"the same key, an upper half comes": {0, []saw{key, loaded(0, 2), cas(a, 0, 1), loaded(0, 2), last(same)}, map[int]do{5: stored(myKey, upper+uint64(one))}, one, 2},
		"the same key, the upper half goes": {0, []saw{same, loaded(0, 2), cas(a, 0, 1), loaded(0, 2), last(key)}, map[int]do{1: stored(myKey, upper+uint64(one)), 2: stored(myKey, uint64(one))}, one, 2},
		"the same key, another upper half":  {0, []saw{same, loaded(0, 2), cas(a, 0, 1), loaded(0, 2), last(far)}, map[int]do{1: stored(myKey, upper+uint64(one)), 4: stored(myKey, 1<<63+uint64(one))}, one, 2},
		"an upper half that says a key":     {0, []saw{loaded(myKey, 0), loaded(0, 2), cas(260, 0, 1), loaded(0, 2), last(loaded(myKey, upper*uint64(one)))}, map[int]do{1: stored(myKey, 0), 5: stored(myKey, upper*uint64(one))}, 0, 2},
		"another key, the same upper half": {0, []saw{same, loaded(0, 2), cas(a, 0, 1), loaded(0, 2), turned, add(a, 1, 0), turned, loaded(0, 2), cas(b, 0, 1), loaded(0, 2), last(turned)},
			map[int]do{1: stored(myKey, upper+uint64(one)), 3: stored(myKey, upper+uint64(other))}, other, 2},
		"the same key, another table and upper half": {0, []saw{key, loaded(0, 2), cas(a, 0, 1), loaded(0, 3), add(a, 1, 0), same, loaded(0, 3), cas(c, 0, 1), loaded(0, 3), last(same)},
			map[int]do{4: both(stored(0, 3), stored(myKey, upper+uint64(one)))}, one, 3},
		"a key there and back again":       {0, []saw{key, loaded(0, 2), cas(a, 0, 1), loaded(0, 2), last(key)}, map[int]do{2: keyed, 5: stored(myKey, uint64(one))}, one, 2},
		"a key back again ahead of line 6": {0, []saw{key, loaded(0, 2), cas(a, 0, 1), loaded(0, 2), then, add(a, 1, 0), key, loaded(0, 2), cas(a, 0, 1), loaded(0, 2), last(key)}, map[int]do{5: keyed, 6: stored(myKey, uint64(one))}, one, 2},
		"no key any more": {0, []saw{key, loaded(0, 2), cas(a, 0, 1), loaded(0, 2), loaded(myKey, 0), add(a, 1, 0), loaded(myKey, 0), loaded(0, 2), cas(260, 0, 1), loaded(0, 2), last(loaded(myKey, 0))},
			map[int]do{4: stored(myKey, 0)}, 0, 2},
		"another one's key": {0, []saw{key, loaded(0, 2), cas(a, 0, 1), loaded(0, 2), last(key)}, map[int]do{2: stored(myKey-1, 9), 4: stored(myKey+1, 9)}, one, 2},

		"another table ahead of line 1":    {0, third, map[int]do{1: stored(0, 3)}, one, 3},
		"another table ahead of line 2":    {0, third, map[int]do{2: stored(0, 3)}, one, 3},
		"another table ahead of line 3":    {0, append([]saw{key, loaded(0, 2), cas(a, 0, 1), loaded(0, 3), add(a, 1, 0)}, third...), map[int]do{3: stored(0, 3)}, one, 3},
		"another table ahead of line 4":    {0, append([]saw{key, loaded(0, 2), cas(a, 0, 1), loaded(0, 3), add(a, 1, 0)}, third...), map[int]do{4: stored(0, 3)}, one, 3},
		"another table ahead of line 5":    {0, []saw{key, loaded(0, 2), cas(a, 0, 1), loaded(0, 2), last(key)}, map[int]do{5: stored(0, 3)}, one, 2},
		"the same bits by another word":    {0, []saw{key, loaded(0, 2), cas(a, 0, 1), loaded(0, 0), add(a, 1, 0), key, loaded(0, 0), cas(a, 0, 1), loaded(0, 0), last(key)}, map[int]do{4: stored(0, 0)}, one, 2},
		"a table there and back again":     {0, []saw{key, loaded(0, 2), cas(a, 0, 1), loaded(0, 2), last(key)}, map[int]do{3: stored(0, 7), 4: stored(0, 2)}, one, 2},
		"a table that comes back too late": {0, []saw{key, loaded(0, 2), cas(a, 0, 1), loaded(0, 7), add(a, 1, 0), key, loaded(0, 2), cas(a, 0, 1), loaded(0, 2), last(key)}, map[int]do{4: stored(0, 7), 5: stored(0, 2)}, one, 2},

		"both at once": {0, []saw{key, loaded(0, 2), cas(a, 0, 1), loaded(0, 3), add(a, 1, 0), then, loaded(0, 3), cas(lockOf(other, 3), 0, 1), loaded(0, 3), last(then)}, map[int]do{4: both(stored(0, 3), keyed)}, other, 3},
		"the table, then the key": {0, append([]saw{key, loaded(0, 2), cas(a, 0, 1), loaded(0, 3), add(a, 1, 0), key, loaded(0, 3), cas(c, 0, 1), loaded(0, 3), then, add(c, 1, 0), then, loaded(0, 3), cas(lockOf(other, 3), 0, 1), loaded(0, 3)}, last(then)),
			map[int]do{4: stored(0, 3), 10: keyed}, other, 3},
		"the key, then the table": {0, append([]saw{key, loaded(0, 2), cas(a, 0, 1), loaded(0, 2), then, add(a, 1, 0), then, loaded(0, 2), cas(b, 0, 1), loaded(0, 8), add(b, 1, 0), then, loaded(0, 8), cas(lockOf(other, 8), 0, 1), loaded(0, 8)}, last(then)),
			map[int]do{5: keyed, 10: stored(0, 8)}, other, 8},

		"somebody has it, two spins": {2, []saw{key, loaded(0, 2), cas(a, 1, 1), loaded(a, 1), loaded(a, 0), cas(a, 0, 1), loaded(0, 2), last(key)}, map[int]do{3: stored(a, 1), 5: stored(a, 0)}, one, 2},
		"asleep while the key is another one": {0, append([]saw{key, loaded(0, 2), cas(a, 1, 1), called(permits.CaPrepare, myParker), cas(a, 1, 25), called(permits.CaPark, myParker),
			called(permits.CaPark, myParker), loaded(a, 0), cas(a, 0, 1), loaded(0, 2), then, add(a, 1, 0)}, anew...),
			map[int]do{3: stored(a, 1), 7: both(keyed, both(unparked(myParker), stored(a, 0)))}, other, 2},
		"one is queued as it leaves": {0, append([]saw{key, loaded(0, 2), cas(a, 0, 1), loaded(0, 2), then, add(a, 41, 40), loaded(a, 40), cas(a, 40, 42), cas(a, 42, 0), called(permits.CaUnpark, 19)}, anew...),
			map[int]do{5: both(keyed, queued(9, a))}, other, 2},
	} {
		t.Run(name, func(t *testing.T) {
			w, x := world(t, o.spin), NewOwn(me)
			w.Cells.Store(myKey, uint64(one))
			checkWay(t, w, x, o.way, o.ahead)
			checkGot(t, x, o.key, o.word)
		})
	}
}

// P15.3: what is asked again is the key, that is the lower half of its word, whatever the upper half says.
func TestOwnAsksForTheKey(t *testing.T) {
	words := []uint64{0, 1, uint64(one), uint64(other), uint64(neighbour), math.MaxUint32, upper, upper + 1, upper + uint64(one), upper + uint64(other),
		upper * uint64(one), 2*upper - 1, 7*upper + uint64(one), 1 << 63, 1<<63 + uint64(one), 1<<63 + math.MaxUint32, math.MaxUint64, math.MaxUint64 - 1}
	for _, first := range words {
		for _, then := range words {
			w, x := world(t, 0), NewOwn(me)
			w.Cells.Store(myKey, first)
			half, turned := api.Addr(first%upper), first%upper != then%upper
			lock := lockOf(half, 2)
			for i, want := range []saw{loaded(myKey, first), loaded(0, 2), cas(lock, 0, 1), loaded(0, 2)} {
				checkSaw(t, i+1, x, w, want)
			}
			w.Cells.Store(myKey, then)
			want := loaded(myKey, then)
			want.over = !turned
			checkSaw(t, 5, x, w, want)
			if turned {
				checkSaw(t, 6, x, w, add(lock, 1, 0))
				checkSaw(t, 7, x, w, loaded(myKey, then))
				continue
			}
			checkGot(t, x, half, 2)
			if w.Cells.Peek(lock) != 1 {
				t.Errorf("words %d, %d: the lock is %d", first, then, w.Cells.Peek(lock))
			}
		}
	}
}

// P15.4: where nothing of the words changes, both are over as soon as their Lock is, and with two loads more, or four: also if they had to wait.
func TestLoadsMore(t *testing.T) {
	for spin := range 4 {
		for held := range 12 {
			for _, own := range []bool{false, true} {
				for _, a := range []api.Addr{one, other, 0} {
					alone, w := world(t, spin), world(t, spin)
					lock := lockOf(a, 2)
					want := stepsTill(alone, wordlocks.NewLock(me, lock), lock, held, 0)
					var x stepper = NewEnter(me, a)
					more, ahead := 2, 1
					if own {
						x, more, ahead = NewOwn(me), 4, 2
					}
					w.Cells.Store(myKey, uint64(a))
					if n := stepsTill(w, x, lock, held, ahead); n != want+more {
						t.Errorf("Spin %d, had for %d steps: over in %d steps, its Lock in %d", spin, held, n, want)
					}
				}
			}
		}
	}
}

// stepsTill it is over: a lock is had by another one till so many steps behind those ahead.
func stepsTill(w *worlds.World, x stepper, lock api.Addr, held, ahead int) int {
	holder := wordlocks.NewLock(9, lock)
	holder.Step(w)
	for n := 1; n < 100; n++ {
		if n == ahead+held+1 {
			for free := wordfrees.NewFree(lock); !free.Step(w); {
			}
		}
		if x.Step(w) {
			return n
		}
	}
	return -1
}

// noThreads: numbers that are no thread's.
func noThreads() []int {
	return []int{-1, -2, 64, 65, 128, 1 << 32, -1 << 32, math.MinInt, math.MaxInt}
}

// R3: what is of no thread, of none, and of one that no call made is over, does nothing, and has nothing.
func TestOverFromTheStart(t *testing.T) {
	all := []stepper{(*Enter)(nil), (*Own)(nil), &Enter{}, &Own{}}
	for _, thread := range noThreads() {
		all = append(all, NewEnter(thread, one), NewEnter(thread, 0), NewOwn(thread))
	}
	w := world(t, 2)
	w.Cells.Store(myKey, uint64(one))
	w.Cells.Store(63, uint64(one))
	w.Cells.Store(128, uint64(one))
	before := w.Cells.Words()
	for i, x := range all {
		for _, in := range []*worlds.World{w, nil, {}} {
			if p, key := got(x); !x.Over() || !x.Step(in) || !x.Over() || p != (tables.Place{}) || key != 0 {
				t.Errorf("%d: over: %v, %+v, %d", i, x.Over(), p, key)
			}
		}
	}
	if w.Steps() != 3 || !slices.Equal(w.Cells.Words(), before) {
		t.Error("they do something")
	}
	checkQuiet(t, w, 2)
}

// P15.2, P15.3: of each thread it is not over, and it is that thread that waits; of an Own it is that thread's key.
func TestEachThread(t *testing.T) {
	for thread := range 64 {
		for _, own := range []bool{false, true} {
			w := world(t, 0)
			for i := range 64 {
				w.Cells.Store(api.Addr(64+i), uint64(i)*4+1000)
			}
			key := api.Addr(thread*4 + 1000)
			w.Cells.Store(lockOf(key, 2), 1)
			var x stepper = NewEnter(thread, key)
			if own {
				x = NewOwn(thread)
			}
			for range 8 {
				if x.Over() || x.Step(w) {
					t.Fatalf("thread %d is over", thread)
				}
			}
			if word := w.Cells.Peek(lockOf(key, 2)); !w.Permits.Asleep(2*thread+1) || word != 4*uint64(thread+1)+1 || w.Links.At(thread).Tail != thread {
				t.Errorf("thread %d: the lock is %d", thread, word)
			}
		}
	}
}

// checkQuiet: that a world has what no Enter and no Own changes, as at first.
func checkQuiet(t *testing.T, w *worlds.World, spin int) {
	t.Helper()
	if w.Notes.Count() != 0 || w.Clock.Now() != 0 || w.Clock.Left() != 3 || w.Spin != spin || w.Tokens != [64]uint64{} {
		t.Fatalf("%d notes, tick %d, %d draws, Spin %d, tokens %v", w.Notes.Count(), w.Clock.Now(), w.Clock.Left(), w.Spin, w.Tokens)
	}
	for bits := range 10 {
		if w.Tables.Has(bits) != (bits == 2) {
			t.Fatalf("tables of %d bits", bits)
		}
	}
	for i := range 4 {
		at := tables.Place{Bits: 2, Bucket: i}
		if w.Tables.Timer(at).At != 0 || w.Tables.Timer(at).Fired != 0 || len(w.Tables.Queue(at)) != 0 {
			t.Fatalf("bucket %d is not as at first", i)
		}
	}
}

// twin of an Enter or an Own, told by the chapter's words, in a world of its own.
type twin struct {
	w    *worlds.World
	own  bool
	line int    // that comes next; 0: it is over
	key  uint64 // that was asked for, or that its word says
	k    uint64
	lock *wordlocks.Lock
	free *wordfrees.Free
}

// step of a twin: its line.
func (as *twin) step() {
	if as.own {
		as.ownStep()
	} else {
		as.enterStep()
	}
}

func (as *twin) enterStep() {
	switch as.line {
	case 1:
		as.k = as.w.Cells.Load(0)
		as.lock = wordlocks.NewLock(me, as.at())
		as.line = 2
	case 2:
		if as.lock.Step(as.w) {
			as.line = 3
		}
	case 3:
		as.line = 0
		if as.w.Cells.Load(0) != as.k {
			as.free = wordfrees.NewFree(as.at())
			as.line = 4
		}
	case 4:
		if as.free.Step(as.w) {
			as.line = 1
		}
	}
}

func (as *twin) ownStep() {
	switch as.line {
	case 1:
		as.key = as.w.Cells.Load(myKey) % upper
		as.line = 2
	case 2:
		as.k = as.w.Cells.Load(0)
		as.lock = wordlocks.NewLock(me, as.at())
		as.line = 3
	case 3:
		if as.lock.Step(as.w) {
			as.line = 4
		}
	case 4:
		as.line = 5
		if as.w.Cells.Load(0) != as.k {
			as.free = wordfrees.NewFree(as.at())
			as.line = 6
		}
	case 5:
		as.line = 0
		if as.w.Cells.Load(myKey)%upper != as.key {
			as.free = wordfrees.NewFree(as.at())
			as.line = 6
		}
	case 6:
		if as.free.Step(as.w) {
			as.line = 1
		}
	}
}

// at: where the lock stands by what the twin has read.
func (as *twin) at() api.Addr {
	return lockOf(api.Addr(as.key), as.k)
}

// got by a twin.
func (as *twin) got() (tables.Place, api.Addr) {
	if as.line != 0 {
		return tables.Place{}, 0
	}
	key := api.Addr(as.key)
	if !as.own {
		return placeOf(key, as.k), 0
	}
	return placeOf(key, as.k), key
}

// pair: an Enter or an Own in a world, and its twin.
type pair struct {
	w  *worlds.World
	x  stepper
	as *twin
}

// newPair of an operation that begins.
func newPair(t *testing.T, own bool, spin int) pair {
	t.Helper()
	p := pair{w: world(t, spin), as: &twin{w: world(t, spin), own: own}}
	stored(myKey, uint64(one)).in(p)
	p.begin(one)
	return p
}

// begin anew.
func (p *pair) begin(key api.Addr) {
	p.as.line = 1
	if p.as.own {
		p.x = NewOwn(me)
		return
	}
	p.x = NewEnter(me, key)
	p.as.key = uint64(key)
}

// in both worlds it is done.
func (d do) in(p pair) {
	d(p.w)
	d(p.as.w)
}

// step both, and hold them against each other.
func (p pair) step(t *testing.T) {
	t.Helper()
	steps, line := p.w.Steps(), p.as.line
	over := p.x.Step(p.w)
	p.as.step()
	if over != (p.as.line == 0) {
		t.Fatalf("behind line %d: Step = %v", line, over)
	}
	want := 1
	if line == 0 {
		want = 0
	}
	if got := p.w.Steps() - steps; got != want {
		t.Fatalf("line %d: %d steps", line, got)
	}
	p.check(t)
}

// state of a world, as far as an Enter or an Own may change it.
type state struct {
	access          api.Access
	call            permits.Call
	accesses, calls int
	links           [64]links.Link
	goes, asleep    [128]bool
}

func stateOf(w *worlds.World) state {
	s := state{access: w.Cells.Last(), call: w.Permits.Last(), accesses: w.Cells.Count(), calls: w.Permits.Count()}
	for thread := range s.links {
		s.links[thread] = w.Links.At(thread)
	}
	for parker := range s.goes {
		s.goes[parker], s.asleep[parker] = w.Permits.Goes(parker, 0), w.Permits.Asleep(parker)
	}
	return s
}

// check that an operation and its world are as the twin and its world.
func (p pair) check(t *testing.T) {
	t.Helper()
	if p.x.Over() != (p.as.line == 0) {
		t.Fatalf("line %d is next: Over = %v", p.as.line, p.x.Over())
	}
	place, key := got(p.x)
	if wantPlace, wantKey := p.as.got(); place != wantPlace || key != wantKey {
		t.Fatalf("line %d is next: got %+v, %d; want %+v, %d", p.as.line, place, key, wantPlace, wantKey)
	}
	if is, want := stateOf(p.w), stateOf(p.as.w); is != want {
		t.Fatalf("line %d is next: %+v, want %+v", p.as.line, is, want)
	}
	if is, want := p.w.Cells.Words(), p.as.w.Cells.Words(); !slices.Equal(is, want) {
		t.Fatalf("line %d is next: words %v, want %v", p.as.line, is, want)
	}
}

// Acts of somebody else, between two steps.

// none: nothing is done.
func none(*worlds.World) {}

// lockIt and freeIt: words of all locks at which the operation may be, whatever they are.

func lockIt(w *worlds.World) {
	for _, a := range lockPlaces() {
		w.Cells.Or(a, 1)
	}
}

func freeIt(w *worlds.World) {
	for _, a := range lockPlaces() {
		w.Cells.And(a, math.MaxUint64-1)
	}
}

// lockPlaces at which an operation may be.
func lockPlaces() []api.Addr {
	return []api.Addr{lockOf(one, 2), lockOf(other, 2), lockOf(one, 3), lockOf(other, 3)}
}

// queueAt all locks a thread of each one's own.
func queueAt(w *worlds.World) {
	for i, a := range lockPlaces() {
		queued(20+i, a)(w)
	}
}

// allActs: whatever somebody else may do.
func allActs() []do {
	out := []do{none, lockIt, freeIt, queueAt, both(queueAt, freeIt), unparked(myParker), unparked(myParker - 1), both(unparked(myParker), freeIt)}
	for _, word := range []uint64{0, 2, 3, 8, 9, upper + 2} {
		out = append(out, stored(0, word))
	}
	for _, key := range []uint64{uint64(one), uint64(other), uint64(neighbour), 0, upper + uint64(one), upper + uint64(other)} {
		out = append(out, stored(myKey, key), both(stored(myKey, key), stored(0, 3)))
	}
	for _, word := range []uint64{0, 2, 3, 25, 1 << 34} {
		out = append(out, stored(lockOf(one, 2), word))
	}
	return out
}

// script: how an operation comes to a line.
type script struct {
	name string
	own  bool
	line int
	acts []do // each one ahead of a step
}

// Acts of scripts.

var (
	toThird do = stored(0, 3)
	toOther do = stored(myKey, uint64(other))
)

// scripts to each line, from each line that leads to it.
func scripts() []script {
	return []script{
		{"Enter 1", false, 1, nil},
		{"Enter 1 by 4", false, 1, []do{none, none, toThird, none}},
		{"Enter 2 by 1", false, 2, []do{none}},
		{"Enter 2 by 2, it looks", false, 2, []do{none, lockIt}},
		{"Enter 2 by 2, it queues", false, 2, []do{none, lockIt, none, none}},
		{"Enter 2 by 2, it is asleep", false, 2, []do{none, lockIt, none, none, none, none}},
		{"Enter 2 by 2, it is awake", false, 2, []do{none, lockIt, none, none, none, none, both(unparked(myParker), freeIt)}},
		{"Enter 3 by 2", false, 3, []do{none, none}},
		{"Enter 3 by 2, behind a spin", false, 3, []do{none, lockIt, freeIt, none}},
		{"Enter 4 by 3", false, 4, []do{none, none, toThird}},
		{"Enter 4 by 4", false, 4, []do{none, none, both(toThird, queueAt), none, none, none}},
		{"Enter over by 3", false, 0, []do{none, none, none}},
		{"Enter over by 3, the second time", false, 0, []do{none, none, toThird, none, none, none, none}},
		{"Own 1", true, 1, nil},
		{"Own 1 by 6", true, 1, []do{none, none, none, none, toOther, none}},
		{"Own 2 by 1", true, 2, []do{none}},
		{"Own 3 by 2", true, 3, []do{none, none}},
		{"Own 3 by 3, it looks", true, 3, []do{none, none, lockIt}},
		{"Own 3 by 3, it queues", true, 3, []do{none, none, lockIt, none, none}},
		{"Own 3 by 3, it is asleep", true, 3, []do{none, none, lockIt, none, none, none, none}},
		{"Own 4 by 3", true, 4, []do{none, none, none}},
		{"Own 5 by 4", true, 5, []do{none, none, none, none}},
		{"Own 6 by 4", true, 6, []do{none, none, none, toThird}},
		{"Own 6 by 4, both", true, 6, []do{none, none, none, both(toThird, toOther)}},
		{"Own 6 by 5", true, 6, []do{none, none, none, none, toOther}},
		{"Own 6 by 6", true, 6, []do{none, none, none, none, both(toOther, queueAt), none, none, none}},
		{"Own over by 5", true, 0, []do{none, none, none, none, none}},
		{"Own over by 5, the second time", true, 0, []do{none, none, none, toThird, toOther, none, none, none, none, none}},
	}
}

// run acts, each one ahead of a step.
func (p pair) run(t *testing.T, acts ...do) {
	t.Helper()
	for _, act := range acts {
		act.in(p)
		p.step(t)
	}
}

// begun: a pair that is at a script's line.
func (s script) begun(t *testing.T) pair {
	t.Helper()
	p := newPair(t, s.own, 1)
	p.check(t)
	p.run(t, s.acts...)
	if p.as.line != s.line {
		t.Fatalf("%s: at line %d", s.name, p.as.line)
	}
	return p
}

// P15.2, P15.3: from each line on, whatever somebody else does ahead of two steps of four.
func TestLines(t *testing.T) {
	for _, s := range scripts() {
		for _, first := range allActs() {
			for _, second := range allActs() {
				p := s.begun(t)
				p.run(t, first, second, none, none)
			}
		}
		p := s.begun(t)
		p.run(t, none, none, none, none, none, none, none, none)
		checkQuiet(t, p.w, 1)
	}
}

// P15.2, P15.3: from each line on, three things one step behind the other.
func TestLinesAndOn(t *testing.T) {
	few := []do{none, lockIt, both(unparked(myParker), freeIt), queueAt, toThird, toOther, stored(0, 2)}
	for _, s := range scripts() {
		for _, first := range few {
			for _, second := range few {
				for _, third := range few {
					p := s.begun(t)
					p.run(t, first, second, none, third, none, none)
				}
			}
		}
	}
}

// draw of numbers that are always the same, one behind the other.
type draw uint64

// below a number: the next draw.
func (d *draw) below(n int) int {
	*d = *d*6364136223846793005 + 1442695040888963407
	return int(uint64(*d) >> 33 % uint64(n))
}

// P15.2, P15.3: long runs tell what the chapter's words tell; where one is over, another one begins.
func TestLongRuns(t *testing.T) {
	acts := allActs()
	for run := range 600 {
		d := draw(run)
		p := newPair(t, run%2 == 1, d.below(4))
		for range 80 {
			if i := d.below(3 * len(acts)); i < len(acts) {
				acts[i].in(p)
			}
			p.step(t)
			if p.as.line == 0 && d.below(2) == 0 {
				p.begin([]api.Addr{one, other, neighbour, 0, math.MaxUint32}[d.below(5)])
				if d.below(2) == 0 {
					both(unparked(myParker), freeIt).in(p)
				}
			}
		}
		checkQuiet(t, p.w, p.as.w.Spin)
	}
}

// P15.2, P15.3: what is asked of it, ahead of each line, is no step, and changes nothing; in no world nothing is done.
func TestAskedOften(t *testing.T) {
	for _, s := range scripts() {
		p := s.begun(t)
		for range 5 {
			p.check(t)
			if p.x.Step(nil) != (s.line == 0) {
				t.Errorf("%s: Step = %v in no world", s.name, s.line != 0)
			}
		}
		p.run(t, none, none, none, none, none, none, none)
	}
}

// P15.2, P15.3: behind its last step it is over, does nothing, and has what it had.
func TestOver(t *testing.T) {
	for _, s := range scripts() {
		if s.line != 0 {
			continue
		}
		p := s.begun(t)
		for _, act := range allActs() {
			p.run(t, act, none)
			if !p.x.Step(nil) || !p.x.Step(&worlds.World{}) {
				t.Errorf("%s: not over", s.name)
			}
			p.check(t)
		}
	}
}

// R3: a world that no call made has nothing, and takes nothing: there no CAS is done.
func TestWorldThatNoCallMade(t *testing.T) {
	for i, x := range []stepper{NewEnter(me, one), NewOwn(me)} {
		var empty worlds.World
		for range 30 {
			if p, key := got(x); x.Step(&empty) || x.Over() || p != (tables.Place{}) || key != 0 {
				t.Fatalf("operation %d is over", i)
			}
		}
		if empty != (worlds.World{}) {
			t.Errorf("operation %d: the world has something: %v", i, empty)
		}
	}
}

// R3: worlds that lack a part: what there is is used.
func TestWorldsThatLackSomething(t *testing.T) {
	for i, w := range []worlds.World{
		{Cells: cells.New()}, {Cells: &cells.Cells{}}, {Cells: cells.New(), Permits: &permits.Set{}}, {Cells: cells.New(), Links: links.New()},
	} {
		x, y := NewEnter(me, one), NewOwn(9)
		w.Cells.Store(api.CellKey+9, uint64(other))
		steps := 1
		for ; !x.Step(&w) && steps < 20; steps++ {
		}
		for ; !y.Step(&w) && steps < 20; steps++ {
		}
		checkGot(t, x, one, 0)
		checkGot(t, y, other, 0)
		if steps != 7 || w.Cells.Peek(lockOf(one, 0)) != 1 || w.Cells.Peek(lockOf(other, 0)) != 1 {
			t.Errorf("world %d: %d steps", i, steps)
		}
	}
}

// R1: a world is used in the step that it is handed to, and in no other.
func TestTwoWorlds(t *testing.T) {
	here, there := world(t, 0), world(t, 0)
	there.Cells.Store(0, 3)
	there.Cells.Store(myKey, uint64(other))
	x, y := NewEnter(me, one), NewOwn(me)
	for range 3 {
		x.Step(here)
	}
	for range 2 {
		y.Step(there)
	}
	y.Step(here)
	if !x.Over() || here.Steps() != 4 || there.Steps() != 4 || here.Cells.Peek(lockOf(one, 2)) != 1 || here.Cells.Peek(lockOf(other, 3)) != 1 || there.Cells.Peek(lockOf(other, 3)) != 0 {
		t.Error("a step is made in a world that it was not handed")
	}
	y.Step(there)
	if !y.Step(there) || there.Steps() != 6 {
		t.Error("it is not over where it looked")
	}
	checkGot(t, x, one, 2)
	checkGot(t, y, other, 3)
}

// P15.2, P15.3: operations mind nothing of each other, but for the cells.
func TestSeveralAtOnce(t *testing.T) {
	w := world(t, 0)
	w.Cells.Store(api.CellKey+7, uint64(other))
	w.Cells.Store(api.CellKey+8, 0)
	x, y, z := NewEnter(6, one), NewOwn(7), NewOwn(8)
	for range 5 {
		x.Step(w)
		y.Step(w)
		z.Step(w)
	}
	if !x.Over() || !y.Over() || !z.Over() {
		t.Error("not over")
	}
	checkGot(t, x, one, 2)
	checkGot(t, y, other, 2)
	checkGot(t, z, 0, 2)
}
