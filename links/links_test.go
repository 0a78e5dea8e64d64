package links

import (
	"math"
	"slices"
	"testing"
)

// noThreads: numbers beside the threads, on both sides, and far away; among them what is a thread behind its low bits.
func noThreads() []int {
	return []int{
		-1, -2, -3, -63, -64, -65, -128, 64, 65, 66, 127, 128, 255, 256, 1 << 31, 1<<32 - 1, 1 << 32, 1<<32 + 2, 1 << 62,
		math.MaxInt - 1, math.MaxInt, math.MinInt, math.MinInt + 1, math.MinInt + 2,
	}
}

// edges: the first and the last threads, and some between.
func edges() []int { return []int{0, 1, 2, 31, 32, 62, 63} }

// all links of a set, one behind the other.
func all(s *Set) [64]Link {
	var out [64]Link
	for t := range out {
		out[t] = s.At(t)
	}
	return out
}

// empty: links that are all none.
func empty() [64]Link {
	var out [64]Link
	for t := range out {
		out[t] = Link{-1, -1, -1}
	}
	return out
}

// checkAll: that a set's links are these.
func checkAll(t *testing.T, s *Set, want [64]Link) {
	t.Helper()
	for i, one := range all(s) {
		if one != want[i] {
			t.Fatalf("At(%d) = %v, want %v", i, one, want[i])
		}
	}
}

// row of threads that are pushed one behind the other, the first one without a head.
func row(threads ...int) *Set {
	s := New()
	for i, one := range threads {
		if i == 0 {
			s.Push(one, -1)
			continue
		}
		s.Push(one, threads[i-1])
	}
	return s
}

// chain of threads whose Next is the one behind them in the list; the last one was never pushed.
func chain(threads ...int) *Set {
	s := New()
	for i := range len(threads) - 1 {
		s.Push(threads[i], threads[i+1])
	}
	return s
}

// upTo: 0, 1 and so on, so many.
func upTo(n int) []int {
	var out []int
	for i := range n {
		out = append(out, i)
	}
	return out
}

// twin: links as the chapter's words tell them, by threads; what is not there is none.
type twin struct {
	next, prev, tail [64]int
}

func newTwin() *twin {
	w := &twin{}
	for t := range 64 {
		w.next[t], w.prev[t], w.tail[t] = -1, -1, -1
	}
	return w
}

func thread(t int) bool { return 0 <= t && t <= 63 }

func (w *twin) push(t, head int) {
	if !thread(t) {
		return
	}
	w.prev[t], w.next[t], w.tail[t] = -1, -1, t
	if thread(head) {
		w.next[t], w.tail[t] = head, -1
	}
}

func (w *twin) seek(head int) int {
	if !thread(head) {
		return -1
	}
	at := head
	for range 64 {
		if w.tail[at] != -1 {
			break
		}
		if w.next[at] == -1 {
			return -1
		}
		w.prev[w.next[at]], at = at, w.next[at]
	}
	w.tail[head] = w.tail[at]
	return w.tail[at]
}

func (w *twin) cut(head, tail int) int {
	if !thread(head) || !thread(tail) || w.prev[tail] == -1 {
		return -1
	}
	w.tail[head] = w.prev[tail]
	return w.prev[tail]
}

// checkTwin: that a set is as its twin.
func checkTwin(t *testing.T, s *Set, w *twin) {
	t.Helper()
	for i := range 64 {
		if got, want := s.At(i), (Link{w.next[i], w.prev[i], w.tail[i]}); got != want {
			t.Fatalf("At(%d) = %v, want %v", i, got, want)
		}
	}
}

// P5.1: at first all links are none.
func TestNew(t *testing.T) {
	s := New()
	if s == nil {
		t.Fatal("New is none")
	}
	checkAll(t, s, empty())
	for _, one := range edges() {
		if s.Seek(one) != -1 || s.Cut(one, one) != -1 {
			t.Errorf("thread %d is found in a new set", one)
		}
	}
	checkAll(t, s, empty())
}

// P5.1: what is no thread has no link, whatever the threads have.
func TestAtNoThread(t *testing.T) {
	s := row(upTo(64)...)
	s.Seek(63)
	for _, one := range noThreads() {
		if got := s.At(one); got != (Link{-1, -1, -1}) {
			t.Errorf("At(%d) = %v", one, got)
		}
	}
}

// P5.1: what At answers is a link of its own.
func TestAtIsACopy(t *testing.T) {
	s := row(0, 63)
	one := s.At(63)
	one.Next, one.Prev, one.Tail = 5, 6, 7
	if got := s.At(63); got != (Link{0, -1, -1}) {
		t.Errorf("At(63) = %v", got)
	}
}

// P5.2: without a head a thread is the tail itself.
func TestPushWithoutHead(t *testing.T) {
	for _, one := range edges() {
		for _, head := range noThreads() {
			s, want := New(), empty()
			s.Push(one, head)
			want[one] = Link{-1, -1, one}
			checkAll(t, s, want)
		}
	}
}

// P5.2: with a head a thread's Next is that, and no tail is known; the head's link stays.
func TestPushWithHead(t *testing.T) {
	for _, one := range edges() {
		for _, head := range edges() {
			s, want := New(), empty()
			s.Push(one, head)
			want[one] = Link{head, -1, -1}
			checkAll(t, s, want)
		}
	}
}

// P5.2: a push of what is no thread does nothing, with a head or without.
func TestPushNoThread(t *testing.T) {
	s := row(3, 0, 63)
	s.Seek(0)
	want := all(s)
	for _, one := range noThreads() {
		for _, head := range append(noThreads(), edges()...) {
			s.Push(one, head)
		}
	}
	checkAll(t, s, want)
}

// P5.2: a thread that was pushed before has nothing left of that; all others stay as they are.
func TestPushAgain(t *testing.T) {
	for _, one := range edges() {
		for _, head := range []int{-1, 64, 0, 5, 63, one} {
			s := row(upTo(64)...)
			s.Seek(40)
			s.Seek(63)
			want := all(s)
			want[one] = Link{-1, -1, one}
			if thread(head) {
				want[one] = Link{head, -1, -1}
			}
			s.Push(one, head)
			checkAll(t, s, want)
		}
	}
}

// P5.3: a head that is its own tail is found, and nothing changes.
func TestSeekOwnTail(t *testing.T) {
	for _, one := range edges() {
		s, want := row(one), empty()
		want[one] = Link{-1, -1, one}
		for range 3 {
			if got := s.Seek(one); got != one {
				t.Errorf("Seek(%d) = %d", one, got)
			}
		}
		checkAll(t, s, want)
	}
}

// P5.3: through one link.
func TestSeekOneLink(t *testing.T) {
	for _, first := range edges() {
		for _, second := range edges() {
			if first == second {
				continue
			}
			s, want := row(first, second), empty()
			if got := s.Seek(second); got != first {
				t.Errorf("Seek(%d) = %d, want %d", second, got, first)
			}
			want[first], want[second] = Link{-1, second, first}, Link{first, -1, first}
			checkAll(t, s, want)
		}
	}
}

// P5.3: through as many links as there may be: each one's Prev is written, the head's Tail, and no other.
func TestSeekManyLinks(t *testing.T) {
	for n := 2; n <= 64; n++ {
		s := row(upTo(n)...)
		if got := s.Seek(n - 1); got != 0 {
			t.Fatalf("Seek(%d) = %d", n-1, got)
		}
		want := empty()
		want[0] = Link{-1, 1, 0}
		for i := 1; i < n; i++ {
			want[i] = Link{i - 1, i + 1, -1}
		}
		want[n-1].Prev, want[n-1].Tail = -1, 0
		checkAll(t, s, want)
		if got := s.Seek(n - 1); got != 0 {
			t.Fatalf("Seek(%d) = %d, the second time", n-1, got)
		}
		checkAll(t, s, want)
	}
}

// P5.3: the way ends at the first one whose Tail is known, and no further.
func TestSeekStopsAtTail(t *testing.T) {
	s := row(9, 8, 7, 6)
	s.Seek(7)
	s.Push(8, 9) // its Prev is gone
	if got := s.Seek(6); got != 9 {
		t.Errorf("Seek(6) = %d", got)
	}
	want := empty()
	want[9], want[8], want[7], want[6] = Link{-1, 8, 9}, Link{9, -1, -1}, Link{8, 6, 9}, Link{7, -1, 9}
	checkAll(t, s, want)
}

// P5.3: where the way ends at a thread without Next, nothing is found; what was written on the way stays.
func TestSeekFindsNothing(t *testing.T) {
	for n := 2; n <= 64; n++ {
		s := chain(upTo(n)...)
		if got := s.Seek(0); got != -1 {
			t.Fatalf("Seek(0) = %d through %d links", got, n-1)
		}
		want := empty()
		for i := range n - 1 {
			want[i].Next, want[i+1].Prev = i+1, i
		}
		checkAll(t, s, want)
	}
}

// P5.3: of one that was never pushed nothing is found, and nothing changes.
func TestSeekNeverPushed(t *testing.T) {
	s := row(4, 2)
	want := all(s)
	for _, one := range edges() {
		if one == 2 {
			continue
		}
		if got := s.Seek(one); got != -1 {
			t.Errorf("Seek(%d) = %d", one, got)
		}
	}
	checkAll(t, s, want)
}

// P5.3: a head that is no thread: nothing is found, and nothing is done.
func TestSeekNoThread(t *testing.T) {
	s := row(upTo(64)...)
	want := all(s)
	for _, head := range noThreads() {
		if got := s.Seek(head); got != -1 {
			t.Errorf("Seek(%d) = %d", head, got)
		}
	}
	checkAll(t, s, want)
}

// P5.3: where links go round, nothing is found; behind so many steps each one of the round knows its Prev.
func TestSeekRound(t *testing.T) {
	for n := 1; n <= 64; n++ {
		for _, head := range []int{0, n / 2, n - 1} {
			s := chain(upTo(n)...)
			s.Push(n-1, 0)
			if got := s.Seek(head); got != -1 {
				t.Fatalf("Seek(%d) = %d in a round of %d", head, got, n)
			}
			want := empty()
			for i := range n {
				want[i] = Link{(i + 1) % n, (i + n - 1) % n, -1}
			}
			checkAll(t, s, want)
		}
	}
}

// P5.3: a way into a round: its entry's Prev is the round's own, also where the last one of 64 steps writes it.
func TestSeekIntoRound(t *testing.T) {
	for n := 2; n <= 64; n++ {
		for entry := 1; entry < n; entry++ {
			s := chain(upTo(n)...)
			s.Push(n-1, entry)
			if got := s.Seek(0); got != -1 {
				t.Fatalf("Seek(0) = %d, %d threads, a round from %d on", got, n, entry)
			}
			want := empty()
			for i := range n {
				want[i] = Link{i + 1, i - 1, -1}
			}
			want[n-1].Next, want[entry].Prev = entry, n-1
			checkAll(t, s, want)
		}
	}
}

// P5.4: a tail without Prev, the last one of a queue or not sought yet: nothing is done.
func TestCutWithoutPrev(t *testing.T) {
	for _, one := range edges() {
		s := row(one)
		want := all(s)
		if got := s.Cut(one, one); got != -1 {
			t.Errorf("Cut(%d, %d) = %d", one, one, got)
		}
		checkAll(t, s, want)
	}
	s := row(upTo(64)...)
	want := all(s)
	for _, head := range edges() {
		for _, tail := range edges() {
			if got := s.Cut(head, tail); got != -1 {
				t.Errorf("Cut(%d, %d) = %d", head, tail, got)
			}
		}
	}
	checkAll(t, s, want)
}

// P5.4: a tail whose Prev is the head: then the head is the tail; the one cut off keeps its link.
func TestCutPrevIsHead(t *testing.T) {
	for _, first := range edges() {
		for _, second := range edges() {
			if first == second {
				continue
			}
			s, want := row(first, second), empty()
			s.Seek(second)
			if got := s.Cut(second, first); got != second {
				t.Errorf("Cut(%d, %d) = %d", second, first, got)
			}
			want[first], want[second] = Link{-1, second, first}, Link{first, -1, second}
			checkAll(t, s, want)
			if got := s.Seek(second); got != second {
				t.Errorf("Seek(%d) = %d", second, got)
			}
			if got := s.Cut(second, second); got != -1 {
				t.Errorf("Cut(%d, %d) = %d", second, second, got)
			}
			checkAll(t, s, want)
		}
	}
}

// P5.4: what is no tail is cut off as if it were one; the head may be any thread.
func TestCutNoTail(t *testing.T) {
	for _, head := range []int{63, 40, 20, 1, 0} {
		for _, tail := range []int{0, 1, 20, 40, 62} {
			s := row(upTo(64)...)
			s.Seek(63)
			want := all(s)
			if got := s.Cut(head, tail); got != tail+1 {
				t.Errorf("Cut(%d, %d) = %d", head, tail, got)
			}
			want[head].Tail = tail + 1
			checkAll(t, s, want)
		}
	}
}

// P5.4: of what is no thread, as a head, as a tail, or as both, nothing is done.
func TestCutNoThread(t *testing.T) {
	s := row(upTo(64)...)
	s.Seek(63)
	want := all(s)
	for _, no := range noThreads() {
		for _, one := range append(noThreads(), edges()...) {
			if s.Cut(no, one) != -1 || s.Cut(one, no) != -1 {
				t.Errorf("Cut(%d, %d) = %d, Cut(%d, %d) = %d", no, one, s.Cut(no, one), one, no, s.Cut(one, no))
			}
		}
	}
	checkAll(t, s, want)
}

// P5.1 to P5.4: no set has no links, answers none, and keeps nothing.
func TestNoSet(t *testing.T) {
	var s *Set
	for _, one := range append(noThreads(), upTo(64)...) {
		s.Push(one, -1)
		s.Push(one, 3)
		if s.At(one) != (Link{-1, -1, -1}) || s.Seek(one) != -1 || s.Cut(one, 3) != -1 || s.Cut(3, one) != -1 {
			t.Errorf("thread %d of no set has something", one)
		}
	}
}

// P5.1 to P5.4: a set that no call made is a new one.
func TestSetOfNoCall(t *testing.T) {
	var s Set
	checkAll(t, &s, empty())
	if s.Seek(0) != -1 || s.Cut(0, 0) != -1 || s.At(64) != (Link{-1, -1, -1}) {
		t.Error("a set of no call has something")
	}
	s.Push(0, -1)
	s.Push(63, 0)
	if got := s.Seek(63); got != 0 {
		t.Errorf("Seek(63) = %d", got)
	}
	if got := s.Cut(63, 0); got != 63 {
		t.Errorf("Cut(63, 0) = %d", got)
	}
}

// P5.1: two sets share nothing.
func TestTwoSets(t *testing.T) {
	one, other := row(0, 1, 2), New()
	one.Seek(2)
	checkAll(t, other, empty())
	want := all(one)
	other.Push(2, 63)
	other.Push(1, -1)
	checkAll(t, one, want)
}

// queue: threads as they came, the oldest one first; told by a list alone.
type queue struct {
	s *Set
	q []int
}

func (k *queue) head() int {
	if len(k.q) == 0 {
		return -1
	}
	return k.q[len(k.q)-1]
}

func (k *queue) push(one int) {
	k.s.Push(one, k.head())
	k.q = append(k.q, one)
}

// seek in a queue that is not empty: the oldest one is found, and all know who came next.
func (k *queue) seek(t *testing.T) {
	t.Helper()
	if got := k.s.Seek(k.head()); got != k.q[0] {
		t.Fatalf("Seek(%d) = %d in %v", k.head(), got, k.q)
	}
	for i := range len(k.q) - 1 {
		if got := k.s.At(k.q[i]).Prev; got != k.q[i+1] {
			t.Fatalf("Prev of %d is %d in %v", k.q[i], got, k.q)
		}
	}
}

// cut the oldest one off, which was sought from a head on, the last one that came or one before.
func (k *queue) cut(t *testing.T, head int) {
	t.Helper()
	want := -1
	if len(k.q) > 1 {
		want = k.q[1]
	}
	if got := k.s.Cut(head, k.q[0]); got != want {
		t.Fatalf("Cut(%d, %d) = %d in %v", head, k.q[0], got, k.q)
	}
	k.q = k.q[1:]
}

// P5.5: who was pushed is found as it came, and cut off as it came.
func TestQueue(t *testing.T) {
	for n := 1; n <= 64; n++ {
		for _, step := range []int{1, 63, 5, 29} { // odd: all threads, each once
			k := &queue{s: New()}
			for i := range n {
				k.push((i*step + n) % 64)
			}
			for len(k.q) > 0 {
				k.seek(t)
				k.cut(t, k.head())
			}
		}
	}
}

// P5.5: also where more are pushed between, behind a Seek, or behind a Cut; and where who went comes again.
func TestQueueWithPushesBetween(t *testing.T) {
	for many := 1; many <= 4; many++ {
		k, next := &queue{s: New()}, 0
		push := func(n int) {
			for range n {
				if len(k.q) < 64 {
					k.push(next % 64)
					next++
				}
			}
		}
		push(many)
		for range 400 {
			k.seek(t)
			push(many)
			k.seek(t)
			k.cut(t, k.head())
			push(many - 1)
		}
		for len(k.q) > 0 {
			k.seek(t)
			k.cut(t, k.head())
		}
	}
}

// P5.5: pushed, sought and cut in any order, up to all threads at a time.
func TestQueueInAnyOrder(t *testing.T) {
	turn := uint64(5)
	draw := func(n int) int {
		turn = turn*6364136223846793005 + 1442695040888963407
		return int(turn >> 33 % uint64(n))
	}
	longest := 0
	for round := range 300 {
		k := &queue{s: New()}
		sought := -1 // the head from which all know who came next
		for range 200 {
			pushes := 1 + round%3
			switch what := draw(4); {
			case what <= pushes && len(k.q) < 64:
				one := draw(64)
				for slices.Contains(k.q, one) {
					one = (one + 1) % 64
				}
				k.push(one)
			case len(k.q) > 0 && what == 3 && sought != -1 && (sought != k.q[0] || len(k.q) == 1):
				k.cut(t, sought)
				if len(k.q) == 0 {
					sought = -1
				}
			case len(k.q) > 0:
				k.seek(t)
				sought = k.head()
			}
			longest = max(longest, len(k.q))
		}
	}
	if longest != 64 {
		t.Errorf("the longest queue has %d threads", longest)
	}
}

// P5.2 to P5.4: all runs of four calls at three threads, with and without heads, as the chapter's words tell them.
func TestAllShortRuns(t *testing.T) {
	var calls []func(s *Set, w *twin) (int, int)
	for _, a := range []int{0, 1, 63} {
		calls = append(calls, func(s *Set, w *twin) (int, int) { return s.Seek(a), w.seek(a) })
		for _, b := range []int{0, 1, 63, -1} {
			calls = append(calls, func(s *Set, w *twin) (int, int) { s.Push(a, b); w.push(a, b); return 0, 0 })
			if b >= 0 {
				calls = append(calls, func(s *Set, w *twin) (int, int) { return s.Cut(a, b), w.cut(a, b) })
			}
		}
	}
	var run func(s Set, w twin, left int)
	run = func(s Set, w twin, left int) {
		for i, call := range calls {
			s1, w1 := s, w
			if got, want := call(&s1, &w1); got != want {
				t.Fatalf("call %d tells %d, want %d", i, got, want)
			}
			if left > 1 {
				run(s1, w1, left-1)
				continue
			}
			for _, one := range []int{0, 1, 63} {
				if got, want := s1.At(one), (Link{w1.next[one], w1.prev[one], w1.tail[one]}); got != want {
					t.Fatalf("At(%d) = %v, want %v", one, got, want)
				}
			}
		}
	}
	run(Set{}, *newTwin(), 4)
}

// P5.2 to P5.4: long runs of any calls at few threads and at all, what is no thread among them.
func TestLongRuns(t *testing.T) {
	turn := uint64(1)
	draw := func(n int) int {
		turn = turn*6364136223846793005 + 1442695040888963407
		return int(turn >> 33 % uint64(n))
	}
	for round := range 200 {
		s, w := New(), newTwin()
		threads := []int{3, 8, 20, 66}[round%4]
		for i := range 300 {
			a, b := draw(threads)-1, draw(threads)-1
			got, want := 0, 0
			switch draw(5) {
			case 0, 1:
				s.Push(a, b)
				w.push(a, b)
			case 2, 3:
				got, want = s.Seek(a), w.seek(a)
			case 4:
				got, want = s.Cut(a, b), w.cut(a, b)
			}
			if got != want {
				t.Fatalf("round %d, call %d of %d, %d: %d, want %d", round, i, a, b, got, want)
			}
			checkTwin(t, s, w)
		}
	}
}

// The chapter's examples.
func TestExamples(t *testing.T) {
	s := New()
	s.Push(4, -1)
	s.Push(2, 4)
	s.Push(7, 2)
	if got := s.Seek(7); got != 4 {
		t.Errorf("Seek(7) = %d", got)
	}
	if got := s.At(4); got != (Link{-1, 2, 4}) {
		t.Errorf("At(4) = %v", got)
	}
	if got := s.Cut(7, 4); got != 2 {
		t.Errorf("Cut(7, 4) = %d", got)
	}
	if got := s.Seek(7); got != 2 {
		t.Errorf("Seek(7) = %d", got)
	}
	if got := s.Cut(7, 2); got != 7 {
		t.Errorf("Cut(7, 2) = %d", got)
	}
	if got := s.Cut(7, 7); got != -1 {
		t.Errorf("Cut(7, 7) = %d", got)
	}
}
