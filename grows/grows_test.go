package grows

import (
	"math"
	"slices"
	"testing"

	"layby/api"
	"layby/cells"
	"layby/fairs"
	"layby/lines"
	"layby/links"
	"layby/permits"
	"layby/tables"
	"layby/wordfrees"
	"layby/wordlocks"
	"layby/worlds"
)

// me: whose operations are looked at mostly, and its parker of words.
const (
	me       = 5
	myParker = 2*me + 1
)

// Keys: one and its neighbour are in bucket 3 of the table of 2 bits, the other one is in bucket 1, key 0 in 0, key 1 in 2.
const (
	one       api.Addr = 1152
	neighbour api.Addr = 1168
	other     api.Addr = 1156
)

// upper: a bit that no number of bits has.
const upper uint64 = 1 << 32

// bitsOf a word, by plain numbers.
func bitsOf(word uint64) int {
	for bits := 2; bits <= 8; bits++ {
		if word == uint64(bits) {
			return bits
		}
	}
	return 2
}

// bitsFor threads that joined, by plain numbers.
func bitsFor(threads uint64) int {
	switch {
	case threads <= 1:
		return 2
	case threads <= 2:
		return 3
	case threads <= 5:
		return 4
	case threads <= 10:
		return 5
	case threads <= 21:
		return 6
	case threads <= 42:
		return 7
	}
	return 8
}

// wanted bits, where so many stood ahead of the one that joins, by plain numbers.
func wanted(stood uint64) int {
	if stood >= 64 {
		return 8
	}
	return bitsFor(stood + 1)
}

// placeOf a key by a word, by plain numbers.
func placeOf(key api.Addr, word uint64) tables.Place {
	bits := bitsOf(word)
	return tables.Place{Bits: bits, Bucket: int(uint64(key) * 11400714819323198485 / (1 << (64 - bits)))}
}

// lockAt a bucket, by plain numbers.
func lockAt(bits, bucket int) api.Addr {
	return api.Addr(256 + 1<<bits + bucket)
}

// at a bucket of a table.
func at(bits, bucket int) tables.Place {
	return tables.Place{Bits: bits, Bucket: bucket}
}

// The keys stand as it is said of them.
func TestKeysAreApart(t *testing.T) {
	for key, want := range map[api.Addr]tables.Place{one: at(2, 3), neighbour: at(2, 3), other: at(2, 1), 0: at(2, 0), 1: at(2, 2)} {
		if got := placeOf(key, 2); got != want {
			t.Errorf("key %d: %+v", key, got)
		}
	}
	if placeOf(one, 8) == placeOf(neighbour, 8) {
		t.Error(placeOf(one, 8))
	}
}

// tableWords of all sorts.
func tableWords() []uint64 {
	out := []uint64{upper, upper + 2, upper + 3, upper + 8, 1<<63 + 4, 1 << 63, math.MaxUint64, math.MaxUint64 - 1, 255, 256, 258, 264, 1<<31 + 5}
	for word := range uint64(20) {
		out = append(out, word)
	}
	return out
}

// counts of threads that joined: all few ones, and great ones.
func counts() []uint64 {
	out := []uint64{100, 127, 128, 255, 256, 1 << 31, 1<<31 - 1, 1<<32 - 1, upper, upper + 1, upper + 63, 1<<63 - 1, 1 << 63, math.MaxUint64 - 1, math.MaxUint64}
	for count := range uint64(72) {
		out = append(out, count)
	}
	return out
}

// world of a Spin.
func world(t *testing.T, spin int) *worlds.World {
	t.Helper()
	w, e := worlds.New(worlds.Config{Spin: spin, Most: 5, Draws: []uint64{3, 1, 4}})
	if w == nil || e != 0 {
		t.Fatalf("no world of Spin %d: %d", spin, e)
	}
	return w
}

// worldOf so many threads that joined, and a table's word.
func worldOf(t *testing.T, spin int, count, word uint64) *worlds.World {
	t.Helper()
	w := world(t, spin)
	w.Cells.Store(1, count)
	w.Cells.Store(0, word)
	return w
}

// stepper: a Join, a Lock, a Free, an Enter.
type stepper interface {
	Step(w *worlds.World) bool
	Over() bool
}

// through: an operation is, in a world, in some steps.
func through(t *testing.T, w *worlds.World, x stepper) {
	t.Helper()
	for range 10000 {
		if x.Step(w) {
			return
		}
	}
	t.Fatal("it goes on for ever")
}

// saw: what a step is to have done, by plain numbers.
type saw struct {
	access api.Access   // of a step that is an access
	call   permits.Call // of a step that is a call
	over   bool
}

// last: a step behind which it is over.
func last(s saw) saw {
	s.over = true
	return s
}

// Accesses and calls.

func loaded(a api.Addr, found uint64) saw {
	return saw{access: api.Access{Kind: api.AcLoad, Addr: a, Was: found, Is: found}}
}

func put(was, is uint64) saw {
	return saw{access: api.Access{Kind: api.AcStore, Addr: 0, Was: was, Is: is}}
}

func cas(a api.Addr, was, is uint64) saw {
	return saw{access: api.Access{Kind: api.AcCAS, Addr: a, Was: was, Is: is}}
}

func add(a api.Addr, was, is uint64) saw {
	return saw{access: api.Access{Kind: api.AcAdd, Addr: a, Was: was, Is: is}}
}

func and(a api.Addr, was, is uint64) saw {
	return saw{access: api.Access{Kind: api.AcAnd, Addr: a, Was: was, Is: is}}
}

func called(k permits.CallKind, parker int) saw {
	return saw{call: permits.Call{Kind: k, Parker: parker}}
}

func nothing() saw { return saw{} }

// row of steps, one behind the other.
func row(parts ...[]saw) []saw {
	return slices.Concat(parts...)
}

// these steps.
func these(s ...saw) []saw { return s }

// counted: line 1.
func counted(stood uint64) []saw {
	return these(add(1, stood, stood+1))
}

// found a table's word: lines 2 and 4.
func found(word uint64) []saw {
	return these(loaded(0, word))
}

// took locks of a table, that nobody had: line 3.
func took(bits, from, till int) []saw {
	var out []saw
	for bucket := from; bucket < till; bucket++ {
		out = append(out, cas(lockAt(bits, bucket), 0, 1))
	}
	return out
}

// left locks of a table, at which nobody is queued: line 6.
func left(bits, from, till int) []saw {
	var out []saw
	for bucket := from; bucket < till; bucket++ {
		out = append(out, add(lockAt(bits, bucket), 1, 0))
	}
	return out
}

// tookAll, leftAll: all locks of a table.

func tookAll(bits int) []saw { return took(bits, 0, 1<<bits) }

func leftAll(bits int) []saw { return left(bits, 0, 1<<bits) }

// ended: behind the last one of these steps it is over.
func ended(steps []saw) []saw {
	steps[len(steps)-1].over = true
	return steps
}

// grown: lines 2 to 6, where nobody else does anything.
func grown(word uint64, to int) []saw {
	bits := bitsOf(word)
	return ended(row(found(word), tookAll(bits), found(word), these(put(word, uint64(to))), leftAll(bits)))
}

// checkSaw: that the next step of an operation does just that.
func checkSaw(t *testing.T, i int, x stepper, w *worlds.World, want saw) {
	t.Helper()
	accesses, calls := w.Cells.Count(), w.Permits.Count()
	if over := x.Step(w); over != want.over || x.Over() != want.over {
		t.Errorf("step %d: %v, Over = %v", i, over, x.Over())
	}
	if want.access != (api.Access{}) {
		accesses++
		if got := w.Cells.Last(); got != want.access {
			t.Errorf("step %d: the access %+v, want %+v", i, got, want.access)
		}
	}
	if want.call != (permits.Call{}) {
		calls++
		if got := w.Permits.Last(); got != want.call {
			t.Errorf("step %d: the call %+v, want %+v", i, got, want.call)
		}
	}
	if w.Cells.Count() != accesses || w.Permits.Count() != calls {
		t.Errorf("step %d: %d accesses, %d calls; want %d, %d", i, w.Cells.Count(), w.Permits.Count(), accesses, calls)
	}
}

// do: something of somebody else, ahead of a step.
type do func(w *worlds.World)

// stored at an address.
func stored(a api.Addr, v uint64) do {
	return func(w *worlds.World) { w.Cells.Store(a, v) }
}

// both, one behind the other.
func both(first, second do) do {
	return func(w *worlds.World) {
		first(w)
		second(w)
	}
}

// unparked: a parker is.
func unparked(parker int) do {
	return func(w *worlds.World) { w.Permits.Unpark(parker) }
}

// queued: a thread is pushed, alone, for a lock that somebody has.
func queued(thread int, a api.Addr) do {
	return func(w *worlds.World) {
		w.Links.Push(thread, -1)
		w.Cells.Store(a, 4*uint64(thread+1)+1)
	}
}

// checkWay: that an operation does just that, where somebody else does something ahead of some steps; behind that it is over, and does nothing.
func checkWay(t *testing.T, w *worlds.World, x stepper, way []saw, ahead map[int]do) {
	t.Helper()
	if x.Over() {
		t.Error("over ahead of its first step")
	}
	for i, one := range way {
		if is := ahead[i+1]; is != nil {
			is(w)
		}
		if x.Step(nil) {
			t.Error("a step in no world")
		}
		checkSaw(t, i+1, x, w, one)
	}
	for i := range 3 {
		w.Cells.Store(api.CellTable, uint64(i))
		checkSaw(t, len(way)+1+i, x, w, last(nothing()))
		if !x.Step(nil) {
			t.Error("not over in no world")
		}
	}
}

// The chapter's examples.
func TestExamples(t *testing.T) {
	w := world(t, 0)
	for n, want := range []struct {
		steps int
		word  uint64
	}{{2, 2}, {12, 3}, {20, 4}, {2, 4}, {2, 4}, {36, 5}, {2, 5}} {
		x, steps := NewJoin(n), w.Steps()
		for i := range want.steps {
			if x.Over() {
				t.Errorf("thread %d: over ahead of step %d", n, i+1)
			}
			x.Step(w)
		}
		if !x.Over() || w.Steps() != steps+want.steps || w.Cells.Peek(0) != want.word || w.Cells.Peek(1) != uint64(n+1) {
			t.Errorf("thread %d: over: %v, %d steps, words %v", n, x.Over(), w.Steps()-steps, w.Cells.Words())
		}
	}
	if words := w.Cells.Words(); len(words) != 2 {
		t.Errorf("words %v", words)
	}
}

// P17.1: line 1 finds each count: it tells how great the table is to be.
func TestEachCount(t *testing.T) {
	for _, count := range counts() {
		w := worldOf(t, 0, count, 2)
		way := row(counted(count), grown(2, wanted(count)))
		if wanted(count) == 2 {
			way = row(counted(count), these(last(loaded(0, 2))))
		}
		checkWay(t, w, NewJoin(me), way, nil)
		if got := w.Cells.Peek(1); got != count+1 {
			t.Errorf("%d threads: %d behind it", count, got)
		}
	}
}

// P17.1: all that join, one behind the other: the table grows where that is told, and nowhere else.
func TestAllJoin(t *testing.T) {
	w := world(t, 0)
	word := 2
	for count := range uint64(70) {
		steps, to := w.Steps(), wanted(count)
		want := 2
		if to > word {
			want = 4 + 2<<word
		}
		x := NewJoin(int(count % 64))
		through(t, w, x)
		if w.Steps() != steps+want || w.Cells.Peek(0) != uint64(to) || w.Cells.Peek(1) != count+1 {
			t.Errorf("%d threads: %d steps, want %d; the table's word is %d", count, w.Steps()-steps, want, w.Cells.Peek(0))
		}
		word = to
		for bits := range 12 {
			if w.Tables.Has(bits) != (bits == 2 || bits > 2 && bits <= word) {
				t.Errorf("%d threads: the table of %d bits", count, bits)
			}
		}
	}
}

// P17.1: tables' words of all sorts, whether their tables are there or not: one that is great enough is left as it is, from the first look on.
func TestEachTableWord(t *testing.T) {
	for _, word := range tableWords() {
		for _, count := range []uint64{0, 1, 2, 4, 5, 9, 10, 20, 21, 41, 42, 63, 64, math.MaxUint64} {
			for _, there := range []bool{false, true} {
				w := worldOf(t, 0, count, word)
				bits, to := bitsOf(word), wanted(count)
				if there {
					w.Tables.Grow(2, bits, 0)
				}
				way := row(counted(count), these(last(loaded(0, word))))
				if bits < to {
					way = row(counted(count), grown(word, to))
				}
				checkWay(t, w, NewJoin([]int{0, me, 63}[(word+count)%3]), way, nil)
				// Growing is from a table that is there, to one that is not.
				for b := range 10 {
					if want := b == 2 || there && (b == bits || b == to && bits < to) || b == to && bits == 2; w.Tables.Has(b) != want {
						t.Errorf("word %d, %d threads: the table of %d bits", word, count, b)
					}
				}
			}
		}
	}
}

// P17.1: somebody else stores the table's word, ahead of each line, by plain numbers: all locks go, and it begins anew with line 2.
func TestTableMeanwhile(t *testing.T) {
	first := row(found(2), tookAll(2))
	for name, c := range map[string]struct {
		count uint64
		way   []saw
		ahead map[int]do
		word  uint64 // that stands in the end
	}{
		"great enough ahead of line 1":      {1, row(counted(1), these(last(loaded(0, 3)))), map[int]do{1: stored(0, 3)}, 3},
		"great enough ahead of line 2":      {1, row(counted(1), these(last(loaded(0, 8)))), map[int]do{2: stored(0, 8)}, 8},
		"greater, not enough, ahead of 2":   {20, row(counted(20), grown(5, 6)), map[int]do{2: stored(0, 5)}, 6},
		"enough ahead of line 3":            {1, row(counted(1), first, found(3), leftAll(2), these(last(loaded(0, 3)))), map[int]do{3: stored(0, 3)}, 3},
		"enough ahead of the second lock":   {1, row(counted(1), first, found(3), leftAll(2), these(last(loaded(0, 3)))), map[int]do{4: stored(0, 3)}, 3},
		"enough ahead of the last lock":     {1, row(counted(1), first, found(4), leftAll(2), these(last(loaded(0, 4)))), map[int]do{6: stored(0, 4)}, 4},
		"enough ahead of line 4":            {1, row(counted(1), first, found(8), leftAll(2), these(last(loaded(0, 8)))), map[int]do{7: stored(0, 8)}, 8},
		"more bits, not enough":             {20, row(counted(20), first, found(3), leftAll(2), grown(3, 6)), map[int]do{5: stored(0, 3)}, 6},
		"more bits, not enough, at 4":       {63, row(counted(63), first, found(7), leftAll(2), grown(7, 8)), map[int]do{7: stored(0, 7)}, 8},
		"fewer bits":                        {20, row(counted(20), found(4), tookAll(4), found(3), leftAll(4), grown(3, 6)), map[int]do{1: stored(0, 4), 9: stored(0, 3)}, 6},
		"fewer bits, ahead of line 4":       {20, row(counted(20), found(3), tookAll(3), found(2), leftAll(3), grown(2, 6)), map[int]do{2: stored(0, 3), 11: stored(0, 2)}, 6},
		"2 bits by 0":                       {1, row(counted(1), first, found(0), leftAll(2), grown(0, 3)), map[int]do{7: stored(0, 0)}, 3},
		"2 bits by 1":                       {1, row(counted(1), first, found(1), leftAll(2), grown(1, 3)), map[int]do{4: stored(0, 1)}, 3},
		"2 bits by 9":                       {63, row(counted(63), first, found(9), leftAll(2), grown(9, 8)), map[int]do{3: stored(0, 9)}, 8},
		"2 bits, its lower half says 2":     {1, row(counted(1), first, found(upper+2), leftAll(2), grown(upper+2, 3)), map[int]do{7: stored(0, upper+2)}, 3},
		"2 bits, its lower half says 8":     {1, row(counted(1), first, found(upper+8), leftAll(2), grown(upper+8, 3)), map[int]do{7: stored(0, upper+8)}, 3},
		"from no bits to 2":                 {1, row(counted(1), found(9), tookAll(2), found(2), leftAll(2), grown(2, 3)), map[int]do{1: stored(0, 9), 7: stored(0, 2)}, 3},
		"there and back again":              {1, row(counted(1), grown(2, 3)), map[int]do{3: stored(0, 3), 7: stored(0, 2)}, 3},
		"back again ahead of the new look":  {1, row(counted(1), first, found(3), leftAll(2), grown(2, 3)), map[int]do{7: stored(0, 3), 9: stored(0, 2)}, 3},
		"the other one ahead of a new look": {1, row(counted(1), first, found(1), leftAll(2), these(last(loaded(0, 5)))), map[int]do{7: stored(0, 1), 12: stored(0, 5)}, 5},
		"more than found, meanwhile":        {63, row(counted(63), first, found(3), leftAll(2), grown(7, 8)), map[int]do{7: stored(0, 3), 11: stored(0, 7)}, 8},
		"twice": {20, row(counted(20), first, found(3), leftAll(2), found(3), tookAll(3), found(4), leftAll(3), grown(4, 6)),
			map[int]do{7: stored(0, 3), 21: stored(0, 4)}, 6},
		"twice, and then enough": {20, row(counted(20), first, found(3), leftAll(2), found(3), tookAll(3), found(7), leftAll(3), these(last(loaded(0, 7)))),
			map[int]do{7: stored(0, 3), 14: stored(0, 7)}, 7},

		"ahead of line 5":          {1, row(counted(1), first, found(2), these(put(7, 3)), ended(leftAll(2))), map[int]do{8: stored(0, 7)}, 3},
		"ahead of line 5, by none": {1, row(counted(1), first, found(2), these(put(math.MaxUint64, 3)), ended(leftAll(2))), map[int]do{8: stored(0, math.MaxUint64)}, 3},
		"behind line 5":            {1, row(counted(1), grown(2, 3)), map[int]do{9: stored(0, 2)}, 2},
		"ahead of the last Free":   {1, row(counted(1), grown(2, 3)), map[int]do{12: stored(0, 0)}, 0},

		"others join ahead of line 1": {1, row(counted(2), grown(2, 4)), map[int]do{1: stored(1, 2)}, 4},
		"others join behind line 1":   {1, row(counted(1), grown(2, 3)), map[int]do{2: stored(1, 40), 8: stored(1, 60)}, 3},
		"others join, and it looks anew": {1, row(counted(1), first, found(1), leftAll(2), grown(1, 3)),
			map[int]do{7: both(stored(0, 1), stored(1, 63)), 12: stored(1, 64)}, 3},
		"they go again": {20, row(counted(20), first, found(3), leftAll(2), grown(3, 6)), map[int]do{3: stored(1, 0), 7: stored(0, 3)}, 6},
	} {
		t.Run(name, func(t *testing.T) {
			w := worldOf(t, 0, c.count, 2)
			x := NewJoin(me)
			i := 0
			for _, s := range c.way {
				i++
				if is := c.ahead[i]; is != nil {
					is(w)
				}
				checkSaw(t, i, x, w, s)
			}
			if got := w.Cells.Peek(0); got != c.word {
				t.Errorf("the table's word is %d, want %d", got, c.word)
			}
			for bits := 2; bits <= 8; bits++ {
				for bucket := range 1 << bits {
					if got := w.Cells.Peek(lockAt(bits, bucket)); got != 0 {
						t.Errorf("the lock of bucket %d by %d bits is %d", bucket, bits, got)
					}
				}
			}
			checkWay(t, worldOf(t, 3, c.count, 2), NewJoin(me), c.way, c.ahead)
		})
	}
}

// waits: steps of who finds a lock that somebody has, as long as it is asleep; a Park more.
func waits(a api.Addr, spins int) []saw {
	out := these(cas(a, 1, 1))
	for range spins {
		out = append(out, loaded(a, 1))
	}
	return append(out, called(permits.CaPrepare, myParker), cas(a, 1, 25), called(permits.CaPark, myParker), called(permits.CaPark, myParker))
}

// awoken: steps of who is asleep, and has a permit, where the lock is free.
func awoken(a api.Addr) []saw {
	return these(called(permits.CaPark, myParker), loaded(a, 0), cas(a, 0, 1))
}

// P17.1: somebody else has a lock: the first one, one between, the last one: spins, queueing, a Park that blocks, a permit that comes later.
func TestLocksThatSomebodyHas(t *testing.T) {
	for bucket := range 4 {
		a := lockAt(2, bucket)
		ahead := row(counted(1), found(2), took(2, 0, bucket))
		behind := row(took(2, bucket+1, 4), found(2), these(put(2, 3)), ended(leftAll(2)))
		for name, c := range map[string]struct {
			spin int
			way  []saw
			acts map[int]do // ahead of which step of the lock
		}{
			"free ahead of its turn":          {0, these(cas(a, 0, 1)), map[int]do{0: stored(a, 1), 1: stored(a, 0)}},
			"freed behind the first step":     {0, these(cas(a, 1, 1), called(permits.CaPrepare, myParker), cas(a, 0, 0), cas(a, 0, 1)), map[int]do{1: stored(a, 1), 3: stored(a, 0)}},
			"a spin":                          {1, these(cas(a, 1, 1), loaded(a, 0), cas(a, 0, 1)), map[int]do{1: stored(a, 1), 2: stored(a, 0)}},
			"two spins":                       {2, these(cas(a, 1, 1), loaded(a, 1), loaded(a, 0), cas(a, 0, 1)), map[int]do{1: stored(a, 1), 3: stored(a, 0)}},
			"a queue, and free":               {0, these(cas(a, 40, 40), cas(a, 40, 41)), map[int]do{1: stored(a, 40)}},
			"a queue, and a permit":           {2, these(cas(a, 41, 41), called(permits.CaPrepare, myParker), cas(a, 41, 25), called(permits.CaPark, myParker), loaded(a, 24), cas(a, 24, 25)), map[int]do{1: stored(a, 41), 4: both(unparked(myParker), stored(a, 24))}},
			"asleep":                          {0, row(waits(a, 0), awoken(a)), map[int]do{1: stored(a, 1), 6: both(unparked(myParker), stored(a, 0))}},
			"asleep behind spins":             {3, row(waits(a, 3), awoken(a)), map[int]do{1: stored(a, 1), 9: both(unparked(myParker), stored(a, 0))}},
			"a permit ahead of the Park":      {0, row(waits(a, 0)[:3], awoken(a)), map[int]do{1: stored(a, 1), 4: both(unparked(myParker), stored(a, 0))}},
			"a permit ahead of the Prepare":   {0, row(waits(a, 0), awoken(a)), map[int]do{1: both(unparked(myParker), stored(a, 1)), 6: both(unparked(myParker), stored(a, 0))}},
			"asleep twice":                    {0, row(waits(a, 0), these(called(permits.CaPark, myParker), loaded(a, 1)), waits(a, 0)[1:], awoken(a)), map[int]do{1: stored(a, 1), 6: both(unparked(myParker), stored(a, 1)), 12: both(unparked(myParker), stored(a, 0))}},
			"spins begin anew behind a sleep": {1, row(waits(a, 1), these(called(permits.CaPark, myParker), loaded(a, 1)), waits(a, 1)[1:], awoken(a)), map[int]do{1: stored(a, 1), 7: both(unparked(myParker), stored(a, 1)), 14: both(unparked(myParker), stored(a, 0))}},
			"a permit of the other parker":    {0, row(waits(a, 0), these(called(permits.CaPark, myParker)), awoken(a)), map[int]do{1: stored(a, 1), 6: unparked(myParker - 1), 7: both(unparked(myParker), stored(a, 0))}},
		} {
			acts := map[int]do{}
			for i, act := range c.acts {
				acts[i+len(ahead)] = act
			}
			w := worldOf(t, c.spin, 1, 2)
			// A lock that is left with a queue is put back to 1, since nobody is there in truth.
			if word := c.way[len(c.way)-1].access.Is; word != 1 {
				acts[len(ahead)+len(c.way)+1] = stored(a, 1)
			}
			t.Run(name, func(t *testing.T) { checkWay(t, w, NewJoin(me), row(ahead, c.way, behind), acts) })
		}
	}
}

// P17.1: all locks are had by somebody, each for some steps; spins begin anew at each lock.
func TestWaitsForEach(t *testing.T) {
	w := worldOf(t, 1, 2, 2)
	for bucket := range 4 {
		w.Cells.Store(lockAt(2, bucket), 1)
	}
	way, acts := row(counted(2), found(2)), map[int]do{}
	for bucket := range 4 {
		a := lockAt(2, bucket)
		way = row(way, waits(a, 1))
		acts[len(way)+1] = both(unparked(myParker), stored(a, 0))
		way = row(way, awoken(a))
	}
	checkWay(t, w, NewJoin(me), row(way, found(2), these(put(2, 4)), ended(leftAll(2))), acts)
}

// P17.1: somebody is queued at a lock that goes: the first one, one between, the last one, behind line 4 and behind line 5.
func TestLocksThatSomebodyWaitsFor(t *testing.T) {
	for bucket := range 4 {
		a := lockAt(2, bucket)
		for name, c := range map[string]struct {
			way []saw
			act do
			in  map[int]do
		}{
			"one":             {these(add(a, 41, 40), loaded(a, 40), cas(a, 40, 42), cas(a, 42, 0), called(permits.CaUnpark, 19)), queued(9, a), nil},
			"two":             {these(add(a, 33, 32), loaded(a, 32), cas(a, 32, 34), and(a, 34, 32), called(permits.CaUnpark, 19)), both(queued(9, a), func(w *worlds.World) { w.Links.Push(7, 9); w.Cells.Store(a, 33) }), nil},
			"one, and locked": {these(add(a, 41, 40), loaded(a, 41), cas(a, 41, 43), cas(a, 43, 41)), queued(9, a), map[int]do{2: stored(a, 41)}},
			"gone through":    {these(add(a, 43, 42)), both(queued(9, a), stored(a, 43)), nil},
		} {
			for line, it := range map[string]struct {
				ahead, behind []saw
				act           do
			}{
				"behind line 5": {row(counted(1), found(2), tookAll(2), found(2), these(put(2, 3))), nil, nil},
				"behind line 4": {row(counted(1), found(2), tookAll(2), found(3)), found(3), stored(0, 3)},
			} {
				t.Run(name+" "+line, func(t *testing.T) {
					ahead := row(it.ahead, left(2, 0, bucket))
					acts := map[int]do{len(ahead) + 1: c.act}
					for i, act := range c.in {
						acts[len(ahead)+i] = act
					}
					if it.act != nil {
						acts[7] = it.act
					}
					way := ended(row(ahead, c.way, left(2, bucket+1, 4), it.behind))
					checkWay(t, worldOf(t, 0, 1, 2), NewJoin(me), way, acts)
				})
			}
		}
	}
}

// shelf: a bucket's queue and its timer.
type shelf struct {
	queue []lines.Entry
	timer fairs.Timer
}

// shelves of all buckets of all tables.
func shelves(w *worlds.World) map[tables.Place]shelf {
	out := map[tables.Place]shelf{}
	for bits := 2; bits <= 8; bits++ {
		for bucket := range 1 << bits {
			if w.Tables.Has(bits) {
				out[at(bits, bucket)] = shelf{w.Tables.Queue(at(bits, bucket)), w.Tables.Timer(at(bits, bucket))}
			}
		}
	}
	return out
}

// same shelves?
func same(is, want map[tables.Place]shelf) bool {
	if len(is) != len(want) {
		return false
	}
	for p, s := range want {
		if got, there := is[p]; !there || got.timer != s.timer || !slices.Equal(got.queue, s.queue) {
			return false
		}
	}
	return true
}

// grow shelves, by plain numbers: each entry of a table, bucket by bucket, is put behind the queue where its key hashes to; timers begin at a tick.
func grow(s map[tables.Place]shelf, from, to int, now uint64) map[tables.Place]shelf {
	out := map[tables.Place]shelf{}
	for p, is := range s {
		out[p] = is
	}
	for bucket := range 1 << to {
		out[at(to, bucket)] = shelf{timer: fairs.Timer{At: now, Fired: now}}
	}
	for bucket := range 1 << from {
		for _, e := range s[at(from, bucket)].queue {
			p := placeOf(e.Key, uint64(to))
			out[p] = shelf{append(out[p].queue, e), out[p].timer}
		}
		out[at(from, bucket)] = shelf{timer: s[at(from, bucket)].timer}
	}
	return out
}

// filled: a world with a table that counts, whose buckets have queues and timers of their own.
func filled(t *testing.T, count, word uint64, placed bool) *worlds.World {
	t.Helper()
	w, d := worldOf(t, 0, count, word), draw(count*16+word)
	w.Clock.Tick(3)
	bits := bitsOf(word)
	w.Tables.Grow(2, bits, w.Clock.Now())
	for i := range 120 {
		e := lines.Entry{Thread: (i * 7) % 64, Key: keys()[d.below(len(keys()))] + api.Addr(d.below(3)), Token: uint64(i) << 40}
		p := placeOf(e.Key, word)
		if !placed {
			p = at(bits, d.below(1<<bits))
		}
		w.Tables.Put(p, append(w.Tables.Queue(p), e))
	}
	for b := 2; b <= bits; b++ {
		for bucket := range 1 << b {
			w.Tables.PutTimer(at(b, bucket), fairs.Timer{At: uint64(b*bucket) + 1, Fired: uint64(bucket)})
		}
	}
	w.Clock.Tick(1 << 40)
	return w
}

// P17.1: what Grow leaves: it comes with the step of line 5, at the tick that is then: not ahead of it, and no step behind it changes it.
func TestWhatGrowLeaves(t *testing.T) {
	for _, word := range []uint64{2, 0, 3, 4, 5, 6, 7, upper + 8} {
		for _, count := range []uint64{1, 4, 9, 20, 41, 63, 64} {
			bits, to := bitsOf(word), wanted(count)
			if to <= bits {
				continue
			}
			for _, placed := range []bool{true, false} {
				w := filled(t, count, word, placed)
				before := shelves(w)
				x := NewJoin(me)
				for range 3 + 1<<bits {
					x.Step(w)
					w.Clock.Tick(1)
					if !same(shelves(w), before) {
						t.Fatalf("word %d, %d threads: the tables change ahead of line 5", word, count)
					}
				}
				want := grow(before, bits, to, w.Clock.Now())
				x.Step(w)
				if w.Cells.Peek(0) != uint64(to) || !same(shelves(w), want) {
					t.Fatalf("word %d, %d threads: behind line 5 the tables are not as they should be", word, count)
				}
				w.Clock.Tick(1)
				through(t, w, x)
				if !same(shelves(w), want) {
					t.Fatalf("word %d, %d threads: the tables change behind line 5", word, count)
				}
			}
		}
	}
}

// P17.1: entries of one key stay in their order, by plain numbers.
func TestOrderOfOneKey(t *testing.T) {
	w := worldOf(t, 0, 1, 2)
	entries := []lines.Entry{{Thread: 1, Key: one, Token: 9}, {Thread: 2, Key: neighbour}, {Thread: 3, Key: one}, {Thread: 4, Key: one, Token: 1}, {Thread: 6, Key: neighbour, Token: 7}}
	w.Tables.Put(at(2, 3), entries)
	through(t, w, NewJoin(me))
	for _, key := range []api.Addr{one, neighbour} {
		var want, is []lines.Entry
		for _, e := range entries {
			if e.Key == key {
				want = append(want, e)
			}
		}
		for _, e := range w.Tables.Queue(placeOf(key, 3)) {
			if e.Key == key {
				is = append(is, e)
			}
		}
		if !slices.Equal(is, want) {
			t.Errorf("key %d: %v, want %v", key, is, want)
		}
	}
	if len(w.Tables.Queue(at(2, 3))) != 0 {
		t.Error("the old table has them still")
	}
}

// P17.1: where it can't grow (the table that counted is not there, or the new one is), the word is stored, and the tables stay.
func TestNothingToGrow(t *testing.T) {
	for name, c := range map[string]struct {
		count, word uint64
		grown       int
	}{
		"the old one is not there": {20, 4, 3}, "the new one is there": {20, 2, 6}, "both": {20, 5, 6}, "the greatest one is there": {63, 2, 8},
	} {
		w := worldOf(t, 0, c.count, c.word)
		w.Tables.Grow(2, c.grown, 7)
		w.Tables.Put(at(2, 1), []lines.Entry{{Thread: 1, Key: other}})
		w.Tables.Put(at(c.grown, 2), []lines.Entry{{Thread: 2, Key: one}})
		before := shelves(w)
		checkWay(t, w, NewJoin(me), row(counted(c.count), grown(c.word, wanted(c.count))), nil)
		if !same(shelves(w), before) {
			t.Errorf("%s: the tables change", name)
		}
	}
}

// P17.1: a table that is great enough stays as it is, and so does all that is in it.
func TestGreatEnough(t *testing.T) {
	for word := uint64(2); word <= 8; word++ {
		for _, count := range counts() {
			if wanted(count) > int(word) || count > 64 {
				continue
			}
			w := filled(t, count, word, true)
			before := shelves(w)
			checkWay(t, w, NewJoin(me), row(counted(count), these(last(loaded(0, word)))), nil)
			if !same(shelves(w), before) {
				t.Errorf("word %d, %d threads: the tables change", word, count)
			}
		}
	}
}

// noThreads: numbers that are no thread's.
func noThreads() []int {
	return []int{-1, -2, 64, 65, 128, 1 << 32, -1 << 32, 1<<32 + 5, math.MinInt, math.MaxInt}
}

// R3: what is of no thread, of none, and of one that no call made is over, and does nothing.
func TestOverFromTheStart(t *testing.T) {
	all := []*Join{nil, {}}
	for _, thread := range noThreads() {
		all = append(all, NewJoin(thread))
	}
	w := worldOf(t, 2, 5, 2)
	before, steps := w.Cells.Words(), w.Steps()
	for i, x := range all {
		for _, in := range []*worlds.World{w, nil, {}} {
			if !x.Over() || !x.Step(in) || !x.Over() {
				t.Errorf("%d: not over", i)
			}
		}
	}
	if w.Steps() != steps || !slices.Equal(w.Cells.Words(), before) {
		t.Error("they do something")
	}
	checkQuiet(t, w, 2)
}

// P17.1: of each thread it is not over, and it is that thread that waits, for whichever lock.
func TestEachThread(t *testing.T) {
	for thread := range 64 {
		for bucket := range 4 {
			w := worldOf(t, 0, 1, 2)
			w.Cells.Store(lockAt(2, bucket), 1)
			x := NewJoin(thread)
			for range 12 {
				if x.Over() || x.Step(w) {
					t.Fatalf("thread %d is over", thread)
				}
			}
			for b := range 4 {
				want := uint64(0)
				if b < bucket {
					want = 1
				} else if b == bucket {
					want = 4*uint64(thread+1) + 1
				}
				if word := w.Cells.Peek(lockAt(2, b)); word != want {
					t.Errorf("thread %d waits for %d: lock %d is %d", thread, bucket, b, word)
				}
			}
			if !w.Permits.Asleep(2*thread+1) || w.Links.At(thread).Tail != thread {
				t.Errorf("thread %d is not asleep for bucket %d", thread, bucket)
			}
		}
	}
}

// checkQuiet: that a world has what no Join changes, as at first.
func checkQuiet(t *testing.T, w *worlds.World, spin int) {
	t.Helper()
	if w.Notes.Count() != 0 || w.Clock.Left() != 3 || w.Spin != spin || w.Tokens != [64]uint64{} {
		t.Fatalf("%d notes, %d draws, Spin %d, tokens %v", w.Notes.Count(), w.Clock.Left(), w.Spin, w.Tokens)
	}
}

// P17.1: it changes nothing of a world but cells, tables, parkers and links: no note, no tick, no draw, no token.
func TestNothingElse(t *testing.T) {
	for _, count := range []uint64{0, 1, 20, 63} {
		w := filled(t, count, 2, true)
		now := w.Clock.Now()
		through(t, w, NewJoin(me))
		checkQuiet(t, w, 0)
		if w.Clock.Now() != now || w.Permits.Count() != 0 {
			t.Errorf("%d threads: tick %d, %d calls", count, w.Clock.Now(), w.Permits.Count())
		}
	}
}

// R3: a world that no call made has nothing, and takes nothing: there nobody joined, and the table is great enough for one.
func TestWorldThatNoCallMade(t *testing.T) {
	var empty worlds.World
	x := NewJoin(me)
	if x.Step(&empty) || !x.Step(&empty) || !x.Over() {
		t.Error("not over in two steps")
	}
	if empty != (worlds.World{}) {
		t.Errorf("the world has something: %v", empty)
	}
}

// R1: it goes on in a world that lacks all; there no lock is to be had.
func TestOnInAnEmptyWorld(t *testing.T) {
	for steps := range 11 {
		w, x := worldOf(t, 0, 1, 2), NewJoin(me)
		for range steps {
			x.Step(w)
		}
		var empty worlds.World
		for range 40 {
			x.Step(&empty)
		}
		if empty != (worlds.World{}) {
			t.Errorf("behind %d steps: the world has something: %v", steps, empty)
		}
		// With the count of nobody 2 bits are enough; behind line 4 all that is left is to be done once.
		if over := steps == 0 || steps >= 7; x.Over() != over {
			t.Errorf("behind %d steps: over: %v", steps, x.Over())
		}
	}
}

// R3: worlds that lack a part: what there is is used.
func TestWorldsThatLackSomething(t *testing.T) {
	for _, w := range []worlds.World{
		{Cells: cells.New()}, {Cells: &cells.Cells{}}, {Cells: cells.New(), Permits: &permits.Set{}}, {Cells: cells.New(), Links: links.New()}, {Cells: cells.New(), Tables: &tables.Set{}},
	} {
		w.Cells.Store(1, 1)
		checkWay(t, &w, NewJoin(me), row(counted(1), grown(0, 3)), nil)
	}
	w := worlds.World{Cells: cells.New(), Tables: tables.New(9)}
	w.Cells.Store(1, 2)
	checkWay(t, &w, NewJoin(me), row(counted(2), grown(0, 4)), nil)
	if !w.Tables.Has(4) || w.Tables.Timer(at(4, 3)) != (fairs.Timer{}) || w.Tables.Timer(at(2, 3)) != (fairs.Timer{At: 9, Fired: 9}) {
		t.Error("without a clock its tick is 0")
	}
}

// R1: a world is used in the step that it is handed to, and in no other.
func TestTwoWorlds(t *testing.T) {
	here, there := worldOf(t, 0, 1, 2), worldOf(t, 0, 1, 2)
	steps := there.Steps()
	x := NewJoin(me)
	for range 7 {
		x.Step(here)
	}
	there.Clock.Tick(6)
	x.Step(there)
	if there.Steps() != steps+1 || there.Cells.Peek(0) != 3 || here.Cells.Peek(0) != 2 || here.Tables.Has(3) || !there.Tables.Has(3) || there.Tables.Timer(at(3, 0)).At != 6 {
		t.Error("line 5 is not where it was handed")
	}
	through(t, here, x)
	if here.Cells.Peek(lockAt(2, 0))+here.Cells.Peek(lockAt(2, 3)) != 0 || there.Steps() != steps+1 || here.Steps() != 2+7+4 {
		t.Error("line 6 is not where it was handed")
	}
}

// R1: several of one thread, and of several, mind only what they share.
func TestSeveralAtOnce(t *testing.T) {
	w := world(t, 0)
	x, y, z := NewJoin(6), NewJoin(6), NewJoin(7)
	x.Step(w)
	y.Step(w)
	z.Step(w)
	if w.Cells.Peek(1) != 3 || !x.Step(w) || y.Over() || z.Over() {
		t.Error("the first one needs no more than 2 bits")
	}
	through(t, w, z)
	if y.Over() || !y.Step(w) || w.Cells.Peek(0) != 4 || w.Tables.Has(3) || !w.Tables.Has(4) {
		t.Error("the third one grew it for the second one, too")
	}
}

// P17.1: who waits for a lock of the old table is woken as that goes free.
func TestWhoWaitsForAnOldLock(t *testing.T) {
	w := worldOf(t, 0, 1, 2)
	x, y := NewJoin(me), wordlocks.NewLock(9, lockAt(2, 2))
	for range 7 {
		x.Step(w)
	}
	for range 5 {
		y.Step(w)
	}
	if !y.Waits() || w.Permits.Goes(19, 0) {
		t.Error("it does not wait")
	}
	through(t, w, x)
	if !w.Permits.Goes(19, 0) || w.Cells.Peek(lockAt(2, 2)) != 0 {
		t.Error("it is not woken")
	}
	through(t, w, y)
	through(t, w, wordfrees.NewFree(lockAt(2, 2)))
	if words := w.Cells.Words(); len(words) != 2 {
		t.Errorf("words %v", words)
	}
}
