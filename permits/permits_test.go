package permits

import (
	"math"
	"testing"

	"layby/api"
)

const (
	allOnes = math.MaxUint64
	lastBit = uint64(1) << 63
)

// numbers of all sorts: near nothing, near the bits' ends, and the greatest one.
func numbers() []uint64 {
	return []uint64{
		0, 1, 2, 5, 255, 256, 1<<31 - 1, 1 << 31, 1<<32 - 1, 1 << 32, 1<<32 + 1,
		lastBit - 1, lastBit, lastBit + 1, allOnes - 1, allOnes,
	}
}

// noParkers: numbers beside the parkers, on both sides, and far away.
func noParkers() []int {
	return []int{
		-1, -2, -63, -64, -127, -128, -129, -256, 128, 129, 130, 191, 192, 255, 256, 1 << 31, 1<<32 - 1, 1 << 32, 1<<32 + 6,
		1 << 40, 1 << 62, math.MaxInt - 1, math.MaxInt, math.MinInt, math.MinInt + 1, math.MinInt + 6,
	}
}

// edges: the first and the last parkers, and some between.
func edges() []int { return []int{0, 1, 2, 6, 7, 63, 64, 65, 125, 126, 127} }

// callOf a parker, by its kind: what comes of it, as a number (of Late 1 is true).
func callOf(s *Set, k CallKind, p int, at, now uint64) int {
	switch k {
	case CaPrepare:
		s.Prepare(p)
	case CaPark:
		return int(s.Park(p))
	case CaUntil:
		return int(s.Until(p, at, now))
	case CaUnpark:
		s.Unpark(p)
	case CaLate:
		if s.Late(p) {
			return 1
		}
	}
	return 0
}

// kinds of calls, all of them.
func kinds() []CallKind { return []CallKind{CaPrepare, CaPark, CaUntil, CaUnpark, CaLate} }

// twin: a set as the chapter's words tell it, in lists by parkers.
type twin struct {
	permit, asleep, due [128]bool
	ends                [128]uint64
	count               int
	last                Call
}

// call of a parker of a twin: what comes of it, as a number.
func (w *twin) call(k CallKind, p int, at, now uint64) int {
	if p < 0 || p > 127 {
		return 0
	}
	w.count, w.last = w.count+1, Call{k, p}
	switch k {
	case CaPrepare:
		w.permit[p], w.asleep[p] = false, false
	case CaPark, CaUntil:
		if w.permit[p] {
			w.permit[p], w.asleep[p] = false, false
			return 1
		}
		if k == CaUntil && now >= at {
			w.asleep[p] = false
			return 2
		}
		w.asleep[p], w.due[p], w.ends[p] = true, k == CaUntil, at
	case CaUnpark:
		w.permit[p] = true
	case CaLate:
		if !w.permit[p] {
			return 1
		}
	}
	return 0
}

// goes: may whoever is at a parker of a twin go on?
func (w *twin) goes(p int, now uint64) bool {
	return !w.asleep[p] || w.permit[p] || w.due[p] && w.ends[p] <= now
}

// checkAs: that a set is as its twin, at these ticks.
func checkAs(t *testing.T, s *Set, w *twin, ticks ...uint64) {
	t.Helper()
	if s.Count() != w.count || s.Last() != w.last {
		t.Fatalf("Count = %d, want %d; Last = %v, want %v", s.Count(), w.count, s.Last(), w.last)
	}
	for p := range 128 {
		if s.Asleep(p) != w.asleep[p] {
			t.Fatalf("behind %v: Asleep(%d) = %v", w.last, p, s.Asleep(p))
		}
		for _, now := range ticks {
			if s.Goes(p, now) != w.goes(p, now) {
				t.Fatalf("behind %v: Goes(%d, %d) = %v", w.last, p, now, s.Goes(p, now))
			}
		}
	}
}

// checkPermit: that a parker has one, or none; asking is a call.
func checkPermit(t *testing.T, s *Set, p int, want bool) {
	t.Helper()
	if s.Late(p) == want {
		t.Errorf("parker %d has a permit: %v", p, !want)
	}
}

// checkSleeps: that a parker is asleep, and goes on from a tick on, or never.
func checkSleeps(t *testing.T, s *Set, p int, end api.Until) {
	t.Helper()
	if !s.Asleep(p) {
		t.Errorf("parker %d is not asleep", p)
	}
	for _, now := range append(numbers(), end.At-1, end.At, end.At+1) {
		if got := s.Goes(p, now); got != (end.On && now >= end.At) {
			t.Errorf("Goes(%d, %d) = %v, its deadline is %v", p, now, got, end)
		}
	}
}

// checkAwake: that a parker is not asleep, and goes on at all times.
func checkAwake(t *testing.T, s *Set, p int) {
	t.Helper()
	if s.Asleep(p) {
		t.Errorf("parker %d is asleep", p)
	}
	for _, now := range numbers() {
		if !s.Goes(p, now) {
			t.Errorf("Goes(%d, %d) = false of one that is not asleep", p, now)
		}
	}
}

// The numbers are part of the promises: who tells a call or an outcome counts on them.
func TestNumbers(t *testing.T) {
	for i, got := range []Outcome{OuBlocks, OuGot, OuLate} {
		if int(got) != i {
			t.Errorf("outcome %d = %d", i, got)
		}
	}
	for i, got := range []CallKind{CaNone, CaPrepare, CaPark, CaUntil, CaUnpark, CaLate} {
		if int(got) != i {
			t.Errorf("kind %d = %d", i, got)
		}
	}
	if Parkers != 128 {
		t.Errorf("Parkers = %d", Parkers)
	}
}

// P4.1: at first there is no permit, nobody is asleep, and no call was made.
func TestNew(t *testing.T) {
	s := New()
	if s == nil {
		t.Fatal("New is none")
	}
	checkAs(t, s, &twin{}, numbers()...)
	for p := range 128 {
		checkPermit(t, s, p, false)
		if got := s.Park(p); got != OuBlocks {
			t.Errorf("Park(%d) = %d of a new set", p, got)
		}
	}
}

// P4.1: two parkers a thread, side by side, and none is two threads'.
func TestParkersOfThreads(t *testing.T) {
	var whose [128]int
	for thread := range 64 {
		lot, word := Lot(thread), Word(thread)
		if lot != thread+thread || word != lot+1 {
			t.Errorf("thread %d: Lot = %d, Word = %d", thread, lot, word)
		}
		whose[lot]++
		whose[word]++
	}
	for p, n := range whose {
		if n != 1 {
			t.Errorf("parker %d is one of %d threads", p, n)
		}
	}
	for _, c := range []struct{ thread, lot, word int }{{0, 0, 1}, {1, 2, 3}, {3, 6, 7}, {31, 62, 63}, {32, 64, 65}, {62, 124, 125}, {63, 126, 127}} {
		if Lot(c.thread) != c.lot || Word(c.thread) != c.word {
			t.Errorf("thread %d: Lot = %d, Word = %d", c.thread, Lot(c.thread), Word(c.thread))
		}
	}
}

// P4.1: what is no thread has no parkers, where twice its number goes round, too.
func TestParkersOfNoThread(t *testing.T) {
	for _, thread := range []int{
		-1, -2, -63, -64, -65, 64, 65, 127, 128, 1 << 31, 1<<31 + 1, 1 << 32, 1 << 62, 1<<62 + 1, 1<<63 - 1, math.MinInt, math.MinInt + 1, math.MinInt + 63,
	} {
		if Lot(thread) != -1 || Word(thread) != -1 {
			t.Errorf("thread %d: Lot = %d, Word = %d", thread, Lot(thread), Word(thread))
		}
	}
}

// P4.2: Park with a permit takes it; without one whoever parks sleeps, and no tick ends that.
func TestPark(t *testing.T) {
	for _, p := range edges() {
		s := New()
		s.Unpark(p)
		if got := s.Park(p); got != OuGot {
			t.Errorf("Park(%d) = %d with a permit", p, got)
		}
		checkAwake(t, s, p)
		checkPermit(t, s, p, false)
		for range 3 {
			if got := s.Park(p); got != OuBlocks {
				t.Errorf("Park(%d) = %d without a permit", p, got)
			}
			checkSleeps(t, s, p, api.Until{})
		}
		checkPermit(t, s, p, false)
	}
}

// P4.2: two Unparks are one, awake or asleep.
func TestUnparkTwice(t *testing.T) {
	for _, p := range edges() {
		for _, sleeps := range []bool{false, true} {
			s := New()
			if sleeps {
				s.Park(p)
			}
			for range 2 {
				s.Unpark(p)
				checkPermit(t, s, p, true)
			}
			for i, want := range []Outcome{OuGot, OuBlocks, OuBlocks} {
				if got := s.Park(p); got != want {
					t.Errorf("asleep %v: park %d of parker %d = %d, want %d", sleeps, i, p, got, want)
				}
			}
		}
	}
}

// P4.2: who is unparked asleep goes on, whenever, and is still asleep; its park takes the permit, and wakes it.
func TestUnparkAsleep(t *testing.T) {
	for _, p := range edges() {
		for _, at := range []uint64{0, 5, allOnes} { // 0: without a deadline
			for _, again := range []uint64{0, 5, allOnes} {
				s := New()
				park := func(end uint64) Outcome {
					if end == 0 {
						return s.Park(p)
					}
					return s.Until(p, end, 4)
				}
				if got := park(at); got != OuBlocks {
					t.Errorf("parker %d: %d, want OuBlocks", p, got)
				}
				s.Unpark(p)
				for _, now := range numbers() {
					if !s.Goes(p, now) || !s.Asleep(p) {
						t.Errorf("Goes(%d, %d) = %v, Asleep = %v", p, now, s.Goes(p, now), s.Asleep(p))
					}
				}
				if got := park(again); got != OuGot {
					t.Errorf("parker %d: %d, want OuGot", p, got)
				}
				checkAwake(t, s, p)
				checkPermit(t, s, p, false)
			}
		}
	}
}

// P4.2: Until without a permit sleeps below its tick, and is late from it on.
func TestUntil(t *testing.T) {
	for _, p := range edges() {
		for _, at := range numbers() {
			for _, now := range append(numbers(), at-1, at, at+1) {
				s := New()
				want := OuBlocks
				if now >= at {
					want = OuLate
				}
				if got := s.Until(p, at, now); got != want {
					t.Errorf("Until(%d, %d, %d) = %d", p, at, now, got)
				}
				if want == OuBlocks {
					checkSleeps(t, s, p, api.Until{On: true, At: at})
				} else {
					checkAwake(t, s, p)
				}
				checkPermit(t, s, p, false)
			}
		}
	}
}

// P4.2: the ends of deadlines, written out.
func TestUntilEnds(t *testing.T) {
	for _, c := range []struct {
		at, now uint64
		want    Outcome
	}{
		{0, 0, OuLate}, {0, 1, OuLate}, {0, allOnes, OuLate}, {1, 0, OuBlocks}, {1, 1, OuLate}, {1, 2, OuLate},
		{5, 4, OuBlocks}, {5, 5, OuLate}, {5, 6, OuLate}, {lastBit, lastBit - 1, OuBlocks}, {lastBit, lastBit, OuLate}, {lastBit, 1, OuBlocks}, {1, lastBit, OuLate},
		{allOnes, 0, OuBlocks}, {allOnes, allOnes - 1, OuBlocks}, {allOnes, allOnes, OuLate}, {allOnes - 1, allOnes, OuLate},
	} {
		if got := New().Until(7, c.at, c.now); got != c.want {
			t.Errorf("Until(7, %d, %d) = %d, want %d", c.at, c.now, got, c.want)
		}
	}
}

// P4.2: Until with a permit takes it, whatever its tick, late as well.
func TestUntilWithPermit(t *testing.T) {
	for _, p := range edges() {
		for _, at := range numbers() {
			for _, now := range numbers() {
				s := New()
				s.Unpark(p)
				if got := s.Until(p, at, now); got != OuGot {
					t.Errorf("Until(%d, %d, %d) = %d with a permit", p, at, now, got)
				}
				checkAwake(t, s, p)
				checkPermit(t, s, p, false)
			}
		}
	}
}

// P4.2: of two parks the last one's deadline counts, or that it has none.
func TestParkBehindPark(t *testing.T) {
	for _, p := range edges() {
		s := New()
		for _, at := range []uint64{9, 5, allOnes, 1, 7} {
			if got := s.Until(p, at, 0); got != OuBlocks {
				t.Errorf("Until(%d, %d, 0) = %d", p, at, got)
			}
			checkSleeps(t, s, p, api.Until{On: true, At: at})
		}
		s.Park(p)
		checkSleeps(t, s, p, api.Until{})
		s.Until(p, 3, 2)
		checkSleeps(t, s, p, api.Until{On: true, At: 3})
		if got := s.Until(p, 3, 3); got != OuLate {
			t.Errorf("Until(%d, 3, 3) = %d", p, got)
		}
		checkAwake(t, s, p)
		s.Park(p)
		checkSleeps(t, s, p, api.Until{})
		if got := s.Until(p, 0, 0); got != OuLate {
			t.Errorf("Until(%d, 0, 0) = %d", p, got)
		}
		checkAwake(t, s, p)
	}
}

// P4.2: whatever was ahead of a Prepare, behind it the parker is as at first.
func TestPrepare(t *testing.T) {
	for _, p := range edges() {
		for i, ahead := range []func(s *Set){
			func(*Set) {},
			func(s *Set) { s.Prepare(p) },
			func(s *Set) { s.Park(p) },
			func(s *Set) { s.Until(p, 5, 0) },
			func(s *Set) { s.Until(p, allOnes, 0) },
			func(s *Set) { s.Until(p, 0, 0) },
			func(s *Set) { s.Unpark(p) },
			func(s *Set) { s.Late(p) },
			func(s *Set) { s.Park(p); s.Unpark(p) },
			func(s *Set) { s.Until(p, 5, 0); s.Unpark(p) },
			func(s *Set) { s.Until(p, 5, 0); s.Unpark(p); s.Park(p) },
		} {
			s, w := New(), &twin{}
			ahead(s)
			s.Prepare(p)
			w.count, w.last = s.Count(), Call{CaPrepare, p}
			checkAs(t, s, w, numbers()...)
			checkPermit(t, s, p, false)
			if got := s.Park(p); got != OuBlocks {
				t.Errorf("case %d: Park(%d) = %d behind Prepare", i, p, got)
			}
			checkSleeps(t, s, p, api.Until{})
		}
	}
}

// P4.2: Late tells that there is no permit, asleep or not, and changes nothing.
func TestLate(t *testing.T) {
	for _, p := range edges() {
		s := New()
		late := func(want bool) {
			t.Helper()
			for range 3 {
				if got := s.Late(p); got != want {
					t.Errorf("Late(%d) = %v", p, got)
				}
			}
		}
		late(true)
		checkAwake(t, s, p)
		s.Unpark(p)
		late(false)
		checkAwake(t, s, p)
		if got := s.Park(p); got != OuGot {
			t.Errorf("Park(%d) = %d: the permit is gone", p, got)
		}
		s.Until(p, 5, 4)
		late(true)
		checkSleeps(t, s, p, api.Until{On: true, At: 5})
		s.Unpark(p)
		late(false)
		if !s.Asleep(p) {
			t.Errorf("parker %d is not asleep any more", p)
		}
		s.Prepare(p)
		s.Park(p)
		late(true)
		checkSleeps(t, s, p, api.Until{})
	}
}

// P4.3: each call is counted, and is the last one, whatever comes of it.
func TestCountLast(t *testing.T) {
	s := New()
	if s.Count() != 0 || s.Last() != (Call{}) {
		t.Errorf("Count = %d, Last = %v of none", s.Count(), s.Last())
	}
	n := 0
	for _, p := range []int{127, 0, 6, 1, 126} {
		for _, k := range kinds() {
			for _, at := range []uint64{0, 5} { // late, and not
				callOf(s, k, p, at, 4)
				n++
				if got, want := s.Last(), (Call{Kind: k, Parker: p}); s.Count() != n || got != want {
					t.Errorf("Count = %d, want %d; Last = %v, want %v", s.Count(), n, got, want)
				}
			}
		}
	}
}

// P4.3: who asks makes no call, and changes nothing.
func TestAskingIsNoCall(t *testing.T) {
	s, w := New(), &twin{}
	for _, c := range []struct {
		k  CallKind
		p  int
		at uint64
	}{{CaPark, 0, 0}, {CaUntil, 6, 5}, {CaUnpark, 7, 0}, {CaUntil, 127, 9}, {CaUnpark, 127, 0}} {
		callOf(s, c.k, c.p, c.at, 1)
		w.call(c.k, c.p, c.at, 1)
	}
	for range 3 {
		for p := -2; p < 130; p++ {
			s.Asleep(p)
			for _, now := range numbers() {
				s.Goes(p, now)
			}
			Lot(p)
			Word(p)
		}
		checkAs(t, s, w, numbers()...)
	}
	if s.Goes(6, 5) != true || s.Goes(6, 4) != false {
		t.Error("what was asked at a later tick counts")
	}
}

// Of what is no parker nothing is done, and no call is counted.
func TestNoParker(t *testing.T) {
	s, w := New(), &twin{}
	for _, p := range edges() {
		callOf(s, CaUntil, p, 5, 4)
		w.call(CaUntil, p, 5, 4)
	}
	s.Unpark(127)
	w.call(CaUnpark, 127, 0, 0)
	for _, p := range noParkers() {
		for _, k := range kinds() {
			for _, now := range []uint64{0, 5, 6} {
				if got := callOf(s, k, p, 5, now); got != 0 {
					t.Errorf("call %d of parker %d = %d", k, p, got)
				}
				if s.Asleep(p) || s.Goes(p, now) {
					t.Errorf("parker %d: Asleep = %v, Goes = %v", p, s.Asleep(p), s.Goes(p, now))
				}
			}
		}
	}
	checkAs(t, s, w, 0, 4, 5, 6, allOnes)
}

// No set: nothing is done, and nothing is told.
func TestNoSet(t *testing.T) {
	var none *Set
	for p := -1; p < 129; p++ {
		for range 2 {
			for _, k := range kinds() {
				for _, at := range []uint64{0, 5} {
					if got := callOf(none, k, p, at, 4); got != 0 {
						t.Errorf("call %d of parker %d = %d of no set", k, p, got)
					}
				}
			}
			if none.Asleep(p) || none.Goes(p, 0) || none.Goes(p, allOnes) {
				t.Errorf("parker %d of no set: Asleep = %v, Goes = %v", p, none.Asleep(p), none.Goes(p, 0))
			}
		}
	}
	if none.Count() != 0 || none.Last() != (Call{}) {
		t.Errorf("Count = %d, Last = %v of no set", none.Count(), none.Last())
	}
}

// A set that no call made is a new one, whatever is done with it first.
func TestSetOfNoCall(t *testing.T) {
	var first Set
	checkAs(t, &first, &twin{}, numbers()...)
	for _, p := range append(noParkers(), edges()...) {
		for _, k := range kinds() {
			for _, at := range []uint64{0, 5, allOnes} {
				var s Set
				w := &twin{}
				if got, want := callOf(&s, k, p, at, 4), w.call(k, p, at, 4); got != want {
					t.Errorf("call %d of parker %d = %d, want %d", k, p, got, want)
				}
				checkAs(t, &s, w, 0, 4, 5, allOnes)
			}
		}
	}
}

// P4.4: all runs of six calls of one parker are as the chapter tells them, and no other parker minds.
func TestAllRuns(t *testing.T) {
	calls := []struct {
		k  CallKind
		at uint64
	}{{CaPrepare, 0}, {CaPark, 0}, {CaUntil, 2}, {CaUntil, 3}, {CaUntil, 4}, {CaUntil, 5}, {CaUnpark, 0}, {CaLate, 0}}
	const long, now = 6, 3
	runs := 1
	for range long {
		runs *= len(calls)
	}
	for run := range runs {
		s, w := New(), &twin{}
		for turn, left := 0, run; turn < long; turn++ {
			c := calls[left%len(calls)]
			left /= len(calls)
			if got, want := callOf(s, c.k, 6, c.at, now), w.call(c.k, 6, c.at, now); got != want {
				t.Fatalf("run %d, turn %d: %d, want %d", run, turn, got, want)
			}
			for tick := range uint64(6) {
				if s.Goes(6, tick) != w.goes(6, tick) {
					t.Fatalf("run %d, turn %d: Goes(6, %d) = %v", run, turn, tick, s.Goes(6, tick))
				}
			}
			if s.Asleep(6) != w.asleep[6] || s.Asleep(5) || s.Asleep(7) || !s.Goes(5, now) || !s.Goes(7, now) {
				t.Fatalf("run %d, turn %d: Asleep(6) = %v", run, turn, s.Asleep(6))
			}
		}
	}
}

// P4.4: a permit is given, and taken, once at most: of any calls as many parks got one as it was given anew.
func TestPermitsOnce(t *testing.T) {
	next := without()
	s := New()
	given, got, had := 0, 0, false
	for range 20000 {
		switch next(3) {
		case 0:
			if !had {
				given++
			}
			had = true
			s.Unpark(9)
		case 1:
			if s.Park(9) == OuGot {
				got, had = got+1, false
			}
		default:
			if s.Until(9, uint64(next(4)), 2) == OuGot {
				got, had = got+1, false
			}
		}
		if owed := given - got; owed != 0 && owed != 1 || s.Late(9) != (owed == 0) {
			t.Fatalf("%d given, %d got, Late = %v", given, got, !had)
		}
	}
	if given < 1000 {
		t.Errorf("%d given only", given)
	}
}

// P4.4: whatever is called of whom, each parker is as its own calls have it.
func TestParkersApart(t *testing.T) {
	next := without()
	for _, span := range []int{3, 20, 132} { // of parkers that are called: few, more, and all with their neighbours
		s, w := New(), &twin{}
		for range 3000 {
			p := next(span) - 2
			k := kinds()[next(5)]
			at, now := uint64(next(6)), uint64(next(5))
			if next(9) == 0 {
				at, now = numbers()[next(len(numbers()))], numbers()[next(len(numbers()))]
			}
			if got, want := callOf(s, k, p, at, now), w.call(k, p, at, now); got != want {
				t.Fatalf("call %d of parker %d, %d, %d: %d, want %d", k, p, at, now, got, want)
			}
			checkAs(t, s, w, 0, now, at, at-1, at+1, allOnes)
		}
	}
}

// P4.4: one that sleeps among all others that have permits, and one that has one among sleepers.
func TestOneAmongAll(t *testing.T) {
	for one := range 128 {
		s, other := New(), New()
		for p := range 128 {
			if p != one {
				s.Unpark(p)
				other.Until(p, 5, 4)
			}
		}
		s.Park(one)
		other.Unpark(one)
		for p := range 128 {
			if s.Asleep(p) != (p == one) || s.Goes(p, allOnes) != (p != one) || s.Late(p) != (p == one) {
				t.Fatalf("parker %d, where %d sleeps: Asleep = %v", p, one, s.Asleep(p))
			}
			if other.Asleep(p) != (p != one) || other.Goes(p, 4) != (p == one) || !other.Goes(p, 5) || other.Late(p) != (p != one) {
				t.Fatalf("parker %d, where %d has a permit: Asleep = %v", p, one, other.Asleep(p))
			}
		}
	}
}

// Two sets share nothing.
func TestSetsApart(t *testing.T) {
	s, other := New(), New()
	for p := range 128 {
		s.Unpark(p)
		s.Unpark(p)
	}
	checkAs(t, other, &twin{}, 0, allOnes)
	other.Park(3)
	if s.Asleep(3) || s.Count() != 256 || s.Last() != (Call{CaUnpark, 127}) || s.Park(3) != OuGot {
		t.Errorf("Count = %d, Last = %v of another set", s.Count(), s.Last())
	}
}

// The chapter's examples.
func TestExamples(t *testing.T) {
	s := New()
	s.Unpark(6)
	s.Unpark(6)
	if got := s.Park(6); got != OuGot {
		t.Errorf("Park(6) = %d, want OuGot", got)
	}
	if got := s.Park(6); got != OuBlocks {
		t.Errorf("Park(6) = %d, want OuBlocks", got)
	}
	if s.Goes(6, 0) || s.Goes(6, allOnes) {
		t.Error("6 goes on")
	}
	s.Unpark(6)
	if !s.Goes(6, 0) || !s.Asleep(6) {
		t.Errorf("Goes(6, 0) = %v, Asleep(6) = %v", s.Goes(6, 0), s.Asleep(6))
	}
	if got := s.Park(6); got != OuGot {
		t.Errorf("Park(6) = %d, want OuGot", got)
	}
	if got := s.Until(7, 5, 4); got != OuBlocks || s.Goes(7, 4) || !s.Goes(7, 5) {
		t.Errorf("Until(7, 5, 4) = %d, Goes(7, 4) = %v, Goes(7, 5) = %v", got, s.Goes(7, 4), s.Goes(7, 5))
	}
	if got := s.Until(7, 5, 5); got != OuLate {
		t.Errorf("Until(7, 5, 5) = %d, want OuLate", got)
	}
	if s.Count() != 8 || s.Last() != (Call{CaUntil, 7}) {
		t.Errorf("Count = %d, Last = %v", s.Count(), s.Last())
	}
}

// without a pattern: numbers below one, the same each time.
func without() func(n int) int {
	turn := uint64(1)
	return func(n int) int {
		turn = turn*6364136223846793005 + 1442695040888963407
		return int(turn >> 33 % uint64(n))
	}
}
