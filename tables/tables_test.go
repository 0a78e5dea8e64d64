package tables

import (
	"math"
	"math/big"
	"slices"
	"testing"

	"layby/api"
	"layby/fairs"
	"layby/lines"
)

const (
	// last tick there is.
	last uint64 = math.MaxUint64
	// greatest address.
	greatest api.Addr = math.MaxUint32
)

// allBits: all numbers of bits of which there may be a table.
func allBits() []int { return []int{2, 3, 4, 5, 6, 7, 8} }

// sizeOf a table: how many buckets it has.
func sizeOf(bits int) int {
	return map[int]int{2: 4, 3: 8, 4: 16, 5: 32, 6: 64, 7: 128, 8: 256}[bits]
}

// noBits: numbers of bits of which there is no table; among them some that are one behind their low bits.
func noBits() []int {
	return []int{
		1, 0, -1, -2, -3, -8, 9, 10, 11, 16, 31, 32, 34, 63, 64, 66, 72, 128, 130, 255, 256, 258, 264, 65536 + 2, -62, -253, -254,
		1 << 31, 1 << 32, 1<<32 + 2, 1<<32 + 3, 1 << 62, -1 << 31, -1 << 32, 2 - 1<<32, math.MaxInt - 1, math.MaxInt, math.MinInt, math.MinInt + 2, math.MinInt + 3,
	}
}

// ticks: the first ones, the greatest ones, and some between.
func ticks() []uint64 {
	return []uint64{0, 1, 2, 5, 9, 255, 256, 1<<31 - 1, 1 << 31, 1<<32 - 1, 1 << 32, 1<<63 - 1, 1 << 63, last - 1, last}
}

// at a place.
func at(bits, bucket int) Place { return Place{Bits: bits, Bucket: bucket} }

// entry of a thread and a key.
func entry(thread int, key api.Addr) lines.Entry {
	return lines.Entry{Thread: thread, Key: key, Token: uint64(thread) * 3}
}

// home of a key: the bucket that it hashes to, worked out by whole numbers of any length.
func home(key api.Addr, bits int) int {
	factor, _ := new(big.Int).SetString("11400714819323198485", 10)
	product := new(big.Int).Mul(new(big.Int).SetUint64(uint64(key)), factor)
	product.Mod(product, new(big.Int).Exp(big.NewInt(2), big.NewInt(64), nil))
	product.Div(product, new(big.Int).Exp(big.NewInt(2), big.NewInt(int64(64-bits)), nil))
	return int(product.Int64())
}

// homeKeys: keys that hash to a bucket, so many of them.
func homeKeys(p Place, many int) []api.Addr {
	var keys []api.Addr
	for key := api.Addr(0); len(keys) < many; key++ {
		if home(key, p.Bits) == p.Bucket {
			keys = append(keys, key)
		}
	}
	return keys
}

// twin: a set as the chapter's words tell it, in lists by places.
type twin struct {
	has    map[int]bool
	queues map[Place][]lines.Entry
	timers map[Place]fairs.Timer
}

// newTwin as at first.
func newTwin(now uint64) *twin {
	w := &twin{has: map[int]bool{}, queues: map[Place][]lines.Entry{}, timers: map[Place]fairs.Timer{}}
	w.comes(2, now)
	return w
}

// comes: a table of a twin, with empty queues.
func (w *twin) comes(bits int, now uint64) {
	w.has[bits] = true
	for bucket := range sizeOf(bits) {
		w.timers[at(bits, bucket)] = fairs.Timer{At: now, Fired: now}
	}
}

// hasPlace: does a twin have it?
func (w *twin) hasPlace(p Place) bool {
	return w.has[p.Bits] && p.Bucket >= 0 && p.Bucket < sizeOf(p.Bits)
}

// put a queue at a place of a twin.
func (w *twin) put(p Place, l []lines.Entry) bool {
	if w.hasPlace(p) {
		w.queues[p] = slices.Clone(l)
	}
	return w.hasPlace(p)
}

// putTimer at a place of a twin.
func (w *twin) putTimer(p Place, timer fairs.Timer) bool {
	if w.hasPlace(p) {
		w.timers[p] = timer
	}
	return w.hasPlace(p)
}

// grow a twin.
func (w *twin) grow(from, to int, now uint64) bool {
	if !w.has[from] || w.has[to] || from >= to || to > 8 {
		return false
	}
	w.comes(to, now)
	for bucket := range sizeOf(from) {
		for _, e := range w.queues[at(from, bucket)] {
			p := at(to, home(e.Key, to))
			w.queues[p] = append(w.queues[p], e)
		}
		delete(w.queues, at(from, bucket))
	}
	return true
}

// places of a thread in a twin.
func (w *twin) places(thread int) []Place {
	var out []Place
	for _, bits := range allBits() {
		for bucket := range sizeOf(bits) {
			for _, e := range w.queues[at(bits, bucket)] {
				if e.Thread == thread {
					out = append(out, at(bits, bucket))
				}
			}
		}
	}
	return out
}

// checkAs: that a set is as its twin, place by place.
func checkAs(t *testing.T, s *Set, w *twin) {
	t.Helper()
	for bits := -1; bits < 12; bits++ {
		if s.Has(bits) != w.has[bits] {
			t.Fatalf("Has(%d) = %v", bits, s.Has(bits))
		}
		for bucket := -1; bucket <= sizeOf(bits); bucket++ {
			p := at(bits, bucket)
			if got, want := s.Queue(p), w.queues[p]; !slices.Equal(got, want) {
				t.Fatalf("Queue(%v) = %v, want %v", p, got, want)
			}
			if got, want := s.Timer(p), w.timers[p]; got != want {
				t.Fatalf("Timer(%v) = %v, want %v", p, got, want)
			}
		}
	}
}

// checkPlaces: that some threads are where they are in a twin.
func checkPlaces(t *testing.T, s *Set, w *twin, threads ...int) {
	t.Helper()
	for _, thread := range threads {
		if got, want := s.Places(thread), w.places(thread); !slices.Equal(got, want) {
			t.Fatalf("Places(%d) = %v, want %v", thread, got, want)
		}
	}
}

// both: a set and its twin, as at first.
func both(now uint64) (*Set, *twin) { return New(now), newTwin(now) }

// grown: a set and its twin, with a table of each of these bits, grown from the first one.
func grown(bits ...int) (*Set, *twin) {
	s, w := both(3)
	for _, to := range bits {
		s.Grow(2, to, uint64(to))
		w.grow(2, to, uint64(to))
	}
	return s, w
}

// filled: entries of all sorts, and timers, at many places of all tables, where their keys hash to and elsewhere.
func filled(s *Set, w *twin) {
	for _, bits := range allBits() {
		for bucket := range sizeOf(bits) {
			p := at(bits, bucket)
			if bucket%3 != 1 {
				l := row(bits*1000+bucket, bucket%5)
				s.Put(p, l)
				w.put(p, l)
			}
			if bucket%2 == 0 {
				timer := fairs.Timer{At: uint64(bits*bucket) + 70, Fired: last - uint64(bucket)}
				s.PutTimer(p, timer)
				w.putTimer(p, timer)
			}
		}
	}
}

// row of so many entries, each of another key than those of most other rows.
func row(seed, many int) []lines.Entry {
	var out []lines.Entry
	for n := range many {
		out = append(out, lines.Entry{Thread: (seed + n*n) % 64, Key: api.Addr(seed*37 + n*5), Token: uint64(seed)})
	}
	return out
}

// subsets of some numbers of bits, in rising order.
func subsets(bits ...int) [][]int {
	out := [][]int{nil}
	for _, one := range bits {
		for _, l := range out {
			out = append(out, append(slices.Clone(l), one))
		}
	}
	return out
}

// P10.1: a set as at first, at each tick.
func TestNew(t *testing.T) {
	for _, now := range ticks() {
		s := New(now)
		for bits := -3; bits < 12; bits++ {
			if s.Has(bits) != (bits == 2) {
				t.Errorf("at %d: Has(%d) = %v", now, bits, s.Has(bits))
			}
		}
		for bucket := range 4 {
			if got := s.Timer(at(2, bucket)); got.At != now || got.Fired != now {
				t.Errorf("at %d: the timer of %d is %v", now, bucket, got)
			}
			if got := s.Queue(at(2, bucket)); len(got) != 0 {
				t.Errorf("at %d: the queue of %d is %v", now, bucket, got)
			}
		}
		for _, thread := range []int{-1, 0, 1, 63, 64} {
			if got := s.Places(thread); len(got) != 0 {
				t.Errorf("at %d: thread %d is at %v", now, thread, got)
			}
		}
		checkAs(t, s, newTwin(now))
	}
}

// P10.1: two sets have nothing of each other.
func TestSetsApart(t *testing.T) {
	one, other := New(4), New(4)
	filled(one, newTwin(4))
	one.Grow(2, 5, 8)
	checkAs(t, other, newTwin(4))
}

// P10.1: all numbers of bits, ahead of growing and behind it, whichever tables there are.
func TestHas(t *testing.T) {
	for _, bits := range subsets(3, 4, 5, 6, 7, 8) {
		s, _ := grown(bits...)
		for _, asked := range append(noBits(), allBits()...) {
			want := asked == 2 || slices.Contains(bits, asked)
			if s.Has(asked) != want {
				t.Errorf("with %v: Has(%d) = %v", bits, asked, s.Has(asked))
			}
		}
	}
}

// P10.1: tables stay for ever, in whatever order they came.
func TestTablesStay(t *testing.T) {
	s := New(0)
	for i, step := range [][2]int{{2, 6}, {2, 3}, {6, 8}, {3, 4}, {4, 7}, {2, 5}} {
		if s.Has(step[1]) || !s.Grow(step[0], step[1], uint64(i)) || !s.Has(step[1]) || !s.Has(step[0]) || !s.Has(2) {
			t.Fatalf("step %d", i)
		}
	}
	for _, bits := range allBits() {
		if !s.Has(bits) {
			t.Errorf("no table of %d bits", bits)
		}
	}
}

// edges of a table: its first bucket, one in the middle, and the last one.
func edges(bits int) []Place {
	size := sizeOf(bits)
	return []Place{at(bits, 0), at(bits, size/2), at(bits, size-1)}
}

// queuesFor a place: of none, one and many entries, of keys that hash there and of such as don't.
func queuesFor(p Place) [][]lines.Entry {
	keys := homeKeys(p, 3)
	var many []lines.Entry
	for n := range 300 {
		many = append(many, lines.Entry{Thread: n, Key: api.Addr(n * n), Token: last - uint64(n)})
	}
	return [][]lines.Entry{
		{entry(1, keys[0])},
		nil,
		{entry(3, keys[1]), entry(2, keys[0]), entry(3, keys[1]), entry(63, keys[2])},
		{},
		{entry(5, keys[0]+1)},
		{entry(5, keys[0]+1), entry(5, keys[0]), entry(5, keys[0]), entry(4, greatest), entry(0, 0)},
		{{Thread: -1}, {Thread: math.MinInt, Key: 9, Token: 5}, {Thread: math.MaxInt, Key: greatest, Token: last}, {}, {Thread: -1}},
		many,
		many[:299],
		many[299:],
		{entry(1, keys[0])},
	}
}

// P10.2, P10.5: a queue is what was put last, whatever it is, and no other bucket changes.
func TestPutAndQueue(t *testing.T) {
	s, w := grown(allBits()...)
	filled(s, w)
	for _, bits := range allBits() {
		for _, p := range edges(bits) {
			for i, l := range queuesFor(p) {
				if !s.Put(p, l) {
					t.Fatalf("Put(%v) of queue %d: false", p, i)
				}
				if got := s.Queue(p); !slices.Equal(got, l) {
					t.Fatalf("Queue(%v) = %v, want %v", p, got, l)
				}
				w.put(p, l)
				checkAs(t, s, w)
			}
		}
	}
}

// P10.2, P10.5: each bucket of each table keeps a queue and a timer of its own.
func TestEachBucket(t *testing.T) {
	s, w := grown(allBits()...)
	n := 0
	for _, bits := range allBits() {
		for bucket := range sizeOf(bits) {
			n++
			p, l, timer := at(bits, bucket), []lines.Entry{entry(n, api.Addr(n))}, fairs.Timer{At: uint64(n), Fired: uint64(1000 + n)}
			if !s.Put(p, l) || !s.PutTimer(p, timer) || !w.put(p, l) || !w.putTimer(p, timer) {
				t.Fatalf("%v: not put", p)
			}
		}
	}
	checkAs(t, s, w)
	for n := range 510 {
		checkPlaces(t, s, w, n)
	}
}

// P10.2, P10.5: a timer is what was put last, whatever it is; no other one changes, and no queue.
func TestPutTimerAndTimer(t *testing.T) {
	s, w := grown(allBits()...)
	filled(s, w)
	timers := []fairs.Timer{{At: 5, Fired: 5}, {At: 9, Fired: 7}, {At: 7, Fired: 9}, {}, {At: last}, {Fired: last}, {At: last, Fired: last}, {At: 1 << 63, Fired: 1 << 32}, {At: 9, Fired: 7}}
	for _, bits := range allBits() {
		for _, p := range edges(bits) {
			for _, timer := range timers {
				if !s.PutTimer(p, timer) {
					t.Fatalf("PutTimer(%v, %v): false", p, timer)
				}
				if got := s.Timer(p); got.At != timer.At || got.Fired != timer.Fired {
					t.Fatalf("Timer(%v) = %v, want %v", p, got, timer)
				}
				w.putTimer(p, timer)
				checkAs(t, s, w)
			}
		}
	}
}

// P10.2: a queue that was put leaves the timer, and a timer the queue.
func TestQueueAndTimerApart(t *testing.T) {
	s := New(5)
	s.PutTimer(at(2, 1), fairs.Timer{At: 20, Fired: 10})
	s.Put(at(2, 1), []lines.Entry{entry(1, 3)})
	if got := s.Timer(at(2, 1)); got != (fairs.Timer{At: 20, Fired: 10}) {
		t.Errorf("behind a Put the timer is %v", got)
	}
	s.PutTimer(at(2, 1), fairs.Timer{})
	if got := s.Queue(at(2, 1)); len(got) != 1 || got[0] != entry(1, 3) {
		t.Errorf("behind a PutTimer the queue is %v", got)
	}
}

// spoil a list, and all the room behind it.
func spoil(l []lines.Entry) {
	l = l[:cap(l)]
	for i := range l {
		l[i] = entry(77, 77)
	}
}

// P10.2: what is handed in is not kept, and stays as it was, the room behind it, too.
func TestPutKeepsNothing(t *testing.T) {
	for _, many := range []int{0, 1, 2, 3, 4, 5, 8, 33, 100} {
		s, w := both(0)
		memory := row(many, many+6)
		was := slices.Clone(memory)
		l := memory[:many]
		s.Put(at(2, 1), l)
		w.put(at(2, 1), was[:many])
		s.Put(at(2, 2), l)
		w.put(at(2, 2), was[:many])
		s.Queue(at(2, 1))
		s.Places(1)
		s.Grow(2, 4, 1)
		w.grow(2, 4, 1)
		s.Put(at(2, 1), l)
		w.put(at(2, 1), was[:many])
		if !slices.Equal(memory, was) {
			t.Fatalf("%d entries: what was handed in is %v, was %v", many, memory, was)
		}
		spoil(l)
		checkAs(t, s, w)
		checkPlaces(t, s, w, 77)
	}
}

// P10.2: what was put at one place and handed on to another one is not shared between them.
func TestPutWhatWasTold(t *testing.T) {
	s := New(0)
	s.Put(at(2, 0), []lines.Entry{entry(1, 0), entry(2, 1)})
	told := s.Queue(at(2, 0))
	s.Put(at(2, 3), told)
	told[0].Thread = 9
	for _, bucket := range []int{0, 3} {
		if got := s.Queue(at(2, bucket)); len(got) != 2 || got[0] != entry(1, 0) || got[1] != entry(2, 1) {
			t.Errorf("bucket %d: %v", bucket, got)
		}
	}
}

// P10.2, P10.4: what is told has no room behind, and what is stored in it, or appended, changes nothing in the set, nor what is told again, or was told.
func TestToldIsNew(t *testing.T) {
	s, w := grown(allBits()...)
	filled(s, w)
	for many := range 70 {
		s.Put(at(5, 7), row(5, many))
		w.put(at(5, 7), row(5, many))
		for _, p := range []Place{at(5, 7), at(2, 0), at(8, 255), at(8, 2)} {
			first, second := s.Queue(p), s.Queue(p)
			if cap(first) != len(first) || cap(second) != len(second) {
				t.Fatalf("%v: room behind", p)
			}
			spoil(append(first, entry(78, 78)))
			spoil(first)
			if !slices.Equal(second, w.queues[p]) {
				t.Fatalf("%v: what was told is %v, want %v", p, second, w.queues[p])
			}
		}
	}
	checkAs(t, s, w)
	checkPlaces(t, s, w, 77, 78)
}

// P10.2: what was told stays as it was, whatever becomes of the set.
func TestToldStays(t *testing.T) {
	s, w := grown(3, 4)
	filled(s, w)
	var told [][]lines.Entry
	var want [][]lines.Entry
	for bucket := range 16 {
		told = append(told, s.Queue(at(4, bucket)))
		want = append(want, slices.Clone(w.queues[at(4, bucket)]))
	}
	s.Grow(4, 8, 7)
	for bucket := range 16 {
		s.Put(at(4, bucket), row(bucket, 9))
	}
	for bucket := range 16 {
		if !slices.Equal(told[bucket], want[bucket]) {
			t.Errorf("bucket %d: told was %v, is %v", bucket, want[bucket], told[bucket])
		}
	}
}

// P10.3: behind growing, the new queues are told in new memory, too.
func TestGrownIsOfItsOwn(t *testing.T) {
	s, w := grown(3, 5)
	filled(s, w)
	for _, step := range [][2]int{{2, 4}, {5, 6}, {3, 8}, {4, 7}} {
		s.Grow(step[0], step[1], 50)
		w.grow(step[0], step[1], 50)
		for bucket := range sizeOf(step[1]) {
			told := s.Queue(at(step[1], bucket))
			if cap(told) != len(told) {
				t.Fatalf("%v: room behind", at(step[1], bucket))
			}
			spoil(append(told, entry(78, 78)))
			spoil(told)
		}
		checkAs(t, s, w)
	}
}

// strays: places that a set of tables of these bits does not have.
func strays(bits ...int) []Place {
	var out []Place
	for _, no := range noBits() {
		for _, bucket := range []int{0, 1, 3, 4, -1, 256, math.MinInt, math.MaxInt} {
			out = append(out, at(no, bucket))
		}
	}
	for _, one := range allBits() {
		size := sizeOf(one)
		for _, bucket := range []int{-1, -2, -size, -size - 1, size, size + 1, 2 * size, 1024, 1 << 32, 1<<32 + 1, -1 << 32, math.MinInt, math.MinInt + 1, math.MaxInt} {
			out = append(out, at(one, bucket))
		}
		if one != 2 && !slices.Contains(bits, one) {
			out = append(out, edges(one)...)
		}
	}
	return out
}

// P10.2: places that the set does not have: no queue, a timer of 0, 0, false; nothing is done.
func TestNoSuchPlace(t *testing.T) {
	for _, bits := range [][]int{nil, {3}, {4, 6}, {8}, {3, 4, 5, 6, 7, 8}} {
		s, w := grown(bits...)
		filled(s, w)
		for _, p := range strays(bits...) {
			if got := s.Queue(p); len(got) != 0 {
				t.Errorf("with %v: Queue(%v) = %v", bits, p, got)
			}
			if got := s.Timer(p); got.At != 0 || got.Fired != 0 {
				t.Errorf("with %v: Timer(%v) = %v", bits, p, got)
			}
			if s.Put(p, nil) || s.Put(p, row(1, 5)) || s.Put(p, []lines.Entry{entry(77, 0)}) {
				t.Errorf("with %v: Put(%v) is true", bits, p)
			}
			if s.PutTimer(p, fairs.Timer{}) || s.PutTimer(p, fairs.Timer{At: 4, Fired: 2}) {
				t.Errorf("with %v: PutTimer(%v) is true", bits, p)
			}
			if len(s.Queue(p)) != 0 || s.Timer(p) != (fairs.Timer{}) {
				t.Errorf("with %v: %v was put", bits, p)
			}
		}
		for _, no := range noBits() {
			if s.Has(no) {
				t.Errorf("with %v: a table of %d bits came", bits, no)
			}
		}
		checkAs(t, s, w)
		checkPlaces(t, s, w, 77)
	}
}

// P10.3: from each number of bits to each one, whichever tables there are: what it tells, and what the set is behind it.
func TestGrow(t *testing.T) {
	for i, bits := range subsets(3, 4, 5, 6, 7, 8) {
		for from := 1; from <= 9; from++ {
			for to := 1; to <= 10; to++ {
				s, w := grown(bits...)
				filled(s, w)
				now := ticks()[(i+from+to)%len(ticks())]
				want := w.grow(from, to, now)
				if got := s.Grow(from, to, now); got != want {
					t.Fatalf("with %v: Grow(%d, %d) = %v", bits, from, to, got)
				}
				checkAs(t, s, w)
				checkPlaces(t, s, w, 0, 17)
			}
		}
	}
}

// P10.3: which one it may grow from, and to: what it tells.
func TestGrowTells(t *testing.T) {
	for _, c := range []struct {
		from, to int
		want     bool
	}{
		{2, 3, true}, {2, 4, true}, {2, 8, true}, {5, 6, true}, {5, 8, true}, {5, 7, true},
		{5, 3, false}, {5, 4, false}, {5, 2, false}, {5, 5, false}, {2, 5, false}, {2, 2, false}, {5, 1, false}, {2, 0, false}, {2, -1, false},
		{2, 9, false}, {5, 9, false}, {2, 10, false}, {2, 64, false}, {2, 1<<32 + 3, false}, {2, math.MaxInt, false}, {2, math.MinInt, false},
		{3, 4, false}, {4, 6, false}, {6, 7, false}, {7, 8, false}, {8, 9, false}, {1, 3, false}, {0, 3, false}, {-1, 3, false}, {-1, 0, false}, {math.MinInt, 3, false}, {math.MaxInt, 3, false}, {1<<32 + 2, 3, false},
	} {
		s, _ := grown(5)
		if got := s.Grow(c.from, c.to, 9); got != c.want {
			t.Errorf("Grow(%d, %d) = %v", c.from, c.to, got)
		}
		for _, bits := range append(noBits(), allBits()...) {
			if want := bits == 2 || bits == 5 || c.want && bits == c.to; s.Has(bits) != want {
				t.Errorf("behind Grow(%d, %d): Has(%d) = %v", c.from, c.to, bits, s.Has(bits))
			}
		}
	}
}

// P10.3: far beyond the tables nothing is done.
func TestGrowFarBeyond(t *testing.T) {
	s, w := grown(3, 7)
	filled(s, w)
	for _, no := range noBits() {
		for _, bits := range append(noBits(), allBits()...) {
			if s.Grow(no, bits, 4) || s.Grow(bits, no, 4) {
				t.Fatalf("between %d and %d bits it grows", no, bits)
			}
		}
	}
	checkAs(t, s, w)
	for _, no := range noBits() {
		if s.Has(no) {
			t.Errorf("a table of %d bits came", no)
		}
	}
}

// P10.3: queues are rehashed bucket by bucket, as they stand; some of them, written out.
func TestGrowWrittenOut(t *testing.T) {
	// By 3 bits the key 0 hashes to 0, 2 to 1, 1 and 64 to 4, 3 to 6.
	s := New(5)
	s.Put(at(2, 0), []lines.Entry{entry(5, 64), entry(4, 2)})
	s.Put(at(2, 2), []lines.Entry{entry(9, 3), entry(1, 1), entry(2, 0)})
	s.Put(at(2, 3), []lines.Entry{entry(8, 1), entry(5, 2)})
	s.PutTimer(at(2, 2), fairs.Timer{At: 40, Fired: 6})
	if !s.Grow(2, 3, 30) {
		t.Fatal("it does not grow")
	}
	want := map[int][]lines.Entry{
		0: {entry(2, 0)},
		1: {entry(4, 2), entry(5, 2)},
		4: {entry(5, 64), entry(1, 1), entry(8, 1)},
		6: {entry(9, 3)},
	}
	for bucket := range 8 {
		if got := s.Queue(at(3, bucket)); !slices.Equal(got, want[bucket]) {
			t.Errorf("bucket %d: %v, want %v", bucket, got, want[bucket])
		}
		if got := s.Timer(at(3, bucket)); got != (fairs.Timer{At: 30, Fired: 30}) {
			t.Errorf("bucket %d: its timer is %v", bucket, got)
		}
	}
	for bucket, timer := range []fairs.Timer{{At: 5, Fired: 5}, {At: 5, Fired: 5}, {At: 40, Fired: 6}, {At: 5, Fired: 5}} {
		if got := s.Timer(at(2, bucket)); got != timer {
			t.Errorf("the timer of bucket %d of the first one is %v, want %v", bucket, got, timer)
		}
		if got := s.Queue(at(2, bucket)); len(got) != 0 {
			t.Errorf("the queue of bucket %d of the first one is %v", bucket, got)
		}
	}
}

// P10.3: new timers begin at the tick that is handed in, whatever the first one's are; those stay.
func TestGrowTimers(t *testing.T) {
	for _, began := range ticks() {
		for _, now := range ticks() {
			s, w := both(began)
			s.PutTimer(at(2, 3), fairs.Timer{At: 77, Fired: 66})
			w.putTimer(at(2, 3), fairs.Timer{At: 77, Fired: 66})
			s.Grow(2, 3, now)
			w.grow(2, 3, now)
			if got := s.Timer(at(3, 7)); got.At != now || got.Fired != now {
				t.Errorf("grown at %d: %v", now, got)
			}
			checkAs(t, s, w)
		}
	}
}

// P10.3: grown once more to a table that is there, nothing is done, whoever came to the first one meanwhile.
func TestGrowTwice(t *testing.T) {
	for _, to := range []int{3, 5, 8} {
		s, w := both(1)
		filled(s, w)
		s.Grow(2, to, 4)
		w.grow(2, to, 4)
		filled(s, w)
		if s.Grow(2, to, 6) || s.Grow(to, to, 6) {
			t.Fatalf("to %d bits it grows twice", to)
		}
		checkAs(t, s, w)
	}
}

// P10.3: behind growing, the first table is as good as it was: it takes entries, and grows to another one.
func TestGrowOnceMore(t *testing.T) {
	s, w := both(1)
	for i, step := range [][2]int{{2, 4}, {2, 3}, {2, 8}, {3, 6}, {4, 5}, {2, 7}} {
		filled(s, w)
		if !s.Grow(step[0], step[1], uint64(i)) || !w.grow(step[0], step[1], uint64(i)) {
			t.Fatalf("step %d", i)
		}
		checkAs(t, s, w)
		checkPlaces(t, s, w, 0, 1, 2, 30, 63, 64)
	}
}

// P10.4: nowhere, once, several times in one bucket, in several buckets, in several tables.
func TestPlaces(t *testing.T) {
	s, _ := grown(3, 6, 8)
	for p, l := range map[Place][]lines.Entry{
		at(8, 255): {entry(7, 1), entry(5, 1)},
		at(2, 3):   {entry(1, 9), entry(4, 8), entry(1, 9), entry(4, 8), entry(1, 3)},
		at(6, 10):  {entry(7, 1), entry(4, 2), entry(7, 3)},
		at(6, 9):   {entry(7, 1), entry(0, 0)},
		at(3, 0):   {entry(7, 1), entry(-1, 0), entry(64, 0), entry(math.MinInt, 0)},
		at(8, 0):   {entry(7, 1), entry(1<<32, 0), entry(64, 0)},
		at(3, 7):   {entry(6, 1), entry(6, 1)},
		at(2, 0):   {entry(6, 1)},
	} {
		s.Put(p, l)
	}
	for thread, want := range map[int][]Place{
		2:           nil,
		3:           nil,
		1:           {at(2, 3), at(2, 3), at(2, 3)},
		5:           {at(8, 255)},
		0:           {at(6, 9)},
		4:           {at(2, 3), at(2, 3), at(6, 10)},
		6:           {at(2, 0), at(3, 7), at(3, 7)},
		7:           {at(3, 0), at(6, 9), at(6, 10), at(6, 10), at(8, 0), at(8, 255)},
		-1:          {at(3, 0)},
		64:          {at(3, 0), at(8, 0)},
		1 << 32:     {at(8, 0)},
		math.MinInt: {at(3, 0)},
		math.MaxInt: nil,
		-2:          nil,
		1<<32 + 1:   nil,
	} {
		if got := s.Places(thread); !slices.Equal(got, want) {
			t.Errorf("Places(%d) = %v, want %v", thread, got, want)
		}
	}
}

// P10.4: a thread's number counts, not its key or token.
func TestPlacesByThread(t *testing.T) {
	s := New(0)
	s.Put(at(2, 1), []lines.Entry{{Thread: 1, Key: 2, Token: 3}})
	for thread, many := range map[int]int{0: 0, 1: 1, 2: 0, 3: 0} {
		if got := s.Places(thread); len(got) != many {
			t.Errorf("Places(%d) = %v", thread, got)
		}
	}
}

// P10.4: told in new memory, with no room behind, always in the same order.
func TestPlacesAreNew(t *testing.T) {
	s, w := grown(allBits()...)
	for n := range 60 {
		p := at(2+n%7, n%4)
		l := append(s.Queue(p), entry(9, api.Addr(n)))
		s.Put(p, l)
		w.put(p, l)
		first, second := s.Places(9), s.Places(9)
		if cap(first) != len(first) || len(first) != n+1 {
			t.Fatalf("%d places, with room for %d", len(first), cap(first))
		}
		first = append(first, at(0, 0))
		for i := range first {
			first[i] = at(-1, -1)
		}
		if !slices.Equal(second, w.places(9)) {
			t.Fatalf("what was told is %v, want %v", second, w.places(9))
		}
	}
	checkAs(t, s, w)
	checkPlaces(t, s, w, 9)
}

// counted: how often each entry stands in a set's table.
func counted(s *Set, bits int) map[lines.Entry]int {
	out := map[lines.Entry]int{}
	for bucket := range sizeOf(bits) {
		for _, e := range s.Queue(at(bits, bucket)) {
			out[e]++
		}
	}
	return out
}

// P10.5: whoever was in the first table is in the other one, and nowhere else; nobody comes or goes.
func TestNobodyComesOrGoes(t *testing.T) {
	for _, from := range []int{2, 3, 6} {
		for to := from + 1; to <= 8; to++ {
			s, w := both(0)
			for _, bits := range []int{3, 6} {
				if bits != to {
					s.Grow(2, bits, 1)
					w.grow(2, bits, 1)
				}
			}
			filled(s, w)
			if !w.has[from] {
				continue
			}
			was := map[int]map[lines.Entry]int{}
			for _, bits := range allBits() {
				was[bits] = counted(s, bits)
			}
			was[to], was[from] = was[from], nil
			if len(was[to]) == 0 || !s.Grow(from, to, 9) {
				t.Fatalf("from %d to %d bits it does not grow", from, to)
			}
			for _, bits := range allBits() {
				now := counted(s, bits)
				if len(now) != len(was[bits]) {
					t.Fatalf("from %d to %d: table %d has %d, want %d", from, to, bits, len(now), len(was[bits]))
				}
				for e, many := range now {
					if was[bits][e] != many {
						t.Fatalf("from %d to %d: %v stands %d times in table %d", from, to, e, many, bits)
					}
				}
			}
		}
	}
}

// placed queues of the first table, several of each key.
func placed(s *Set) {
	for n := range 400 {
		key := api.Addr(n*n%97) * 31
		p := at(2, home(key, 2))
		s.Put(p, append(s.Queue(p), lines.Entry{Thread: n, Key: key}))
	}
}

// P10.5: by whatever steps it grows to some bits, the queues are the same, if they were placed at first.
func TestStepsDoNotCount(t *testing.T) {
	for to := 3; to <= 8; to++ {
		once := New(0)
		placed(once)
		if !once.Grow(2, to, 1) {
			t.Fatalf("it does not grow to %d bits", to)
		}
		for _, between := range subsets(allBits()[1 : to-2]...) {
			s := New(0)
			placed(s)
			from := 2
			for i, next := range append(between, to) {
				if !s.Grow(from, next, uint64(i)) {
					t.Fatalf("by %v it does not grow to %d bits", between, next)
				}
				from = next
			}
			for bucket := range sizeOf(to) {
				if got, want := s.Queue(at(to, bucket)), once.Queue(at(to, bucket)); !slices.Equal(got, want) {
					t.Fatalf("to %d bits by %v, bucket %d: %v, want %v", to, between, bucket, got, want)
				}
			}
		}
	}
}

// none: sets that have nothing: none at all, and such as no call made.
func none() []*Set {
	var made Set
	return []*Set{nil, &made, new(Set)}
}

// P10.1 to P10.4: of no set, and of a set that no call made: false, none; it gets no tables.
func TestNone(t *testing.T) {
	for i, s := range none() {
		for range 2 {
			for _, bits := range append(noBits(), allBits()...) {
				if s.Has(bits) {
					t.Errorf("set %d has a table of %d bits", i, bits)
				}
				for _, bucket := range []int{0, 1, 3, -1, 4, 255, math.MinInt, math.MaxInt} {
					p := at(bits, bucket)
					if s.Put(p, nil) || s.Put(p, row(3, 3)) || s.PutTimer(p, fairs.Timer{At: 3, Fired: 2}) {
						t.Errorf("set %d: put at %v", i, p)
					}
					if len(s.Queue(p)) != 0 || s.Timer(p) != (fairs.Timer{}) {
						t.Errorf("set %d: something at %v", i, p)
					}
				}
				for _, to := range append(noBits(), allBits()...) {
					if s.Grow(bits, to, 1) {
						t.Errorf("set %d grows from %d to %d", i, bits, to)
					}
				}
			}
			for _, thread := range []int{-1, 0, 1, 63, 64, math.MaxInt, math.MinInt} {
				if got := s.Places(thread); len(got) != 0 {
					t.Errorf("set %d: thread %d is at %v", i, thread, got)
				}
			}
		}
	}
}

// P10.1 to P10.5: long runs of calls, whichever they are, against a twin.
func TestLongRuns(t *testing.T) {
	for run := range 40 {
		next := uint64(run)
		draw := func(most int) int {
			next = next*6364136223846793005 + 1442695040888963407
			return int(next>>33) % most
		}
		s, w := both(uint64(run))
		for call := range 150 {
			p := at(1+draw(9), 0)
			p.Bucket = draw(sizeOf(p.Bits)+2) - 1
			switch draw(4) {
			case 0, 1:
				l := row(draw(3000), draw(9))
				if got, want := s.Put(p, l), w.put(p, l); got != want {
					t.Fatalf("run %d, call %d: Put(%v) = %v", run, call, p, got)
				}
			case 2:
				timer := fairs.Timer{At: uint64(draw(99)), Fired: uint64(draw(99))}
				if got, want := s.PutTimer(p, timer), w.putTimer(p, timer); got != want {
					t.Fatalf("run %d, call %d: PutTimer(%v) = %v", run, call, p, got)
				}
			default:
				to := 1 + draw(9)
				if got, want := s.Grow(p.Bits, to, uint64(call)), w.grow(p.Bits, to, uint64(call)); got != want {
					t.Fatalf("run %d, call %d: Grow(%d, %d) = %v", run, call, p.Bits, to, got)
				}
			}
			checkAs(t, s, w)
			checkPlaces(t, s, w, draw(66)-1)
		}
	}
}

// P10.1 to P10.4: the chapter's examples.
func TestExamples(t *testing.T) {
	s := New(5)
	if got := s.Timer(at(2, 3)); got != (fairs.Timer{At: 5, Fired: 5}) {
		t.Errorf("Timer = %v", got)
	}
	s.Put(at(2, 0), []lines.Entry{{Thread: 1, Key: 0}, {Thread: 2, Key: 2}})
	if !s.Grow(2, 3, 9) {
		t.Error("Grow is false")
	}
	for p, want := range map[Place][]lines.Entry{at(3, 0): {{Thread: 1, Key: 0}}, at(3, 1): {{Thread: 2, Key: 2}}, at(2, 0): nil} {
		if got := s.Queue(p); !slices.Equal(got, want) {
			t.Errorf("Queue(%v) = %v, want %v", p, got, want)
		}
	}
	if got := s.Places(2); !slices.Equal(got, []Place{at(3, 1)}) {
		t.Errorf("Places(2) = %v", got)
	}
}
