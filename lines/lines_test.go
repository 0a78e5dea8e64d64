package lines

import (
	"cmp"
	"math"
	"slices"
	"testing"

	"layby/api"
)

// choices: all that a filter may answer, and some that are none of the three.
func choices() []Choice { return []Choice{ChTake, ChSkip, ChStop, 3, 128, 255} }

// row of choices, and the tokens by which it was asked. Behind its last choice it takes.
type row struct {
	choices []Choice
	asked   []uint64
}

func (r *row) Choose(token uint64) Choice {
	r.asked = append(r.asked, token)
	if n := len(r.asked); n <= len(r.choices) {
		return r.choices[n-1]
	}
	return ChTake
}

// always answers one choice.
type always Choice

func (a always) Choose(uint64) Choice { return Choice(a) }

// byTokens chooses by what a token says.
type byTokens func(token uint64) Choice

func (f byTokens) Choose(token uint64) Choice { return f(token) }

// queue of these keys: threads 1, 2 and so on, tokens 101, 102 and so on.
func queue(keys ...api.Addr) []Entry {
	var l []Entry
	for i, key := range keys {
		l = append(l, Entry{Thread: i + 1, Key: key, Token: uint64(i + 101)})
	}
	return l
}

// queues: all of up to so many entries, of three keys.
func queues(most int) [][]Entry {
	keys := [][]api.Addr{nil}
	for from := 0; len(keys[from]) < most; from++ {
		for _, key := range []api.Addr{0, 8, 9} {
			keys = append(keys, append(slices.Clone(keys[from]), key))
		}
	}
	var out [][]Entry
	for _, one := range keys {
		out = append(out, queue(one...))
	}
	return out
}

// at these places of a queue.
func at(l []Entry, places ...int) []Entry {
	var out []Entry
	for _, i := range places {
		out = append(out, l[i])
	}
	return out
}

// placesOf a key, rising.
func placesOf(l []Entry, key api.Addr) []int {
	var out []int
	for i, e := range l {
		if e.Key == key {
			out = append(out, i)
		}
	}
	return out
}

// others: all places of a queue but these.
func others(l []Entry, places []int) []int {
	var out []int
	for i := range l {
		if !slices.Contains(places, i) {
			out = append(out, i)
		}
	}
	return out
}

// noPlaces of a queue so long: beside it, on both sides, and far away.
func noPlaces(long int) []int {
	return []int{
		-1, -2, -long, -long - 1, long, long + 1, 2*long + 1, 1 << 31, 1 << 32, 1<<32 + 1, -1 << 32, 1 << 62,
		math.MaxInt - 1, math.MaxInt, math.MinInt, math.MinInt + 1,
	}
}

// checkIs: that an answer is this list, with no room behind.
func checkIs(t *testing.T, what string, got, want []Entry) {
	t.Helper()
	if !slices.Equal(got, want) {
		t.Fatalf("%s: %v, want %v", what, got, want)
	}
	if cap(got) != len(got) {
		t.Fatalf("%s: room for %d behind %d", what, cap(got)-len(got), len(got))
	}
}

// checkParted: that these were taken, and all others left.
func checkParted(t *testing.T, what string, l, taken, left []Entry, places []int) {
	t.Helper()
	checkIs(t, what+", taken", taken, at(l, places...))
	checkIs(t, what+", left", left, at(l, others(l, places)...))
}

// spoilt: no entry of a queue.
func spoilt() Entry { return Entry{Thread: -77, Key: 77, Token: 7777} }

// spoil all of a list, and what an append to it writes.
func spoil(l []Entry) {
	for i := range l[:cap(l)] {
		l[:cap(l)][i] = spoilt()
	}
	_ = append(l, spoilt())
}

// checkOwn: that a call, handed a queue with room behind, changes neither, that none of its answers changes with it,
// and none with another one.
func checkOwn(t *testing.T, what string, l []Entry, call func(l []Entry) [][]Entry) {
	t.Helper()
	rest := []Entry{{Thread: 61, Key: 8, Token: 5}, {Thread: 62, Key: 9, Token: 6}}
	all := append(slices.Clone(l), rest...)
	before := slices.Clone(all)
	answers := call(all[:len(l):len(all)])
	if !slices.Equal(all, before) {
		t.Fatalf("%s: what was handed in is %v, was %v", what, all, before)
	}
	var want [][]Entry
	for _, one := range answers {
		want = append(want, slices.Clone(one))
	}
	for i := range all {
		all[i] = spoilt()
	}
	for i, one := range answers {
		checkIs(t, what+", behind a change of what was handed in", one, want[i])
	}
	copy(all, before)
	for i := range answers {
		spoil(answers[i])
		if !slices.Equal(all, before) {
			t.Fatalf("%s: answer %d shares what was handed in", what, i)
		}
		for j := i + 1; j < len(answers); j++ {
			checkIs(t, what+", behind a change of another answer", answers[j], want[j])
		}
	}
}

// P6.1: where a key has no entry, in a queue of none too.
func TestNoneOfAKey(t *testing.T) {
	for _, l := range [][]Entry{nil, {}, queue(8), queue(8, 10, 8, 0)} {
		for _, key := range []api.Addr{9, 7, 11, 1, math.MaxUint32, 8 + 1<<31} {
			if got := First(l, key); got != -1 {
				t.Errorf("First(%v, %d) = %d", l, key, got)
			}
			if Has(l, key) {
				t.Errorf("Has(%v, %d)", l, key)
			}
		}
	}
}

// P6.1: the key 0 is one like others: an empty entry has it, and a queue of none has not.
func TestKeyZero(t *testing.T) {
	if First(nil, 0) != -1 || Has(nil, 0) || First([]Entry{}, 0) != -1 || Has([]Entry{}, 0) {
		t.Error("a queue of none has the key 0")
	}
	l := []Entry{{Key: 1}, {}}
	if First(l, 0) != 1 || !Has(l, 0) {
		t.Errorf("First = %d, Has = %v", First(l, 0), Has(l, 0))
	}
}

// P6.1: the first one of a key counts, wherever it stands, and however many there are.
func TestFirstAndHas(t *testing.T) {
	for _, l := range queues(6) {
		for _, key := range []api.Addr{0, 8, 9, 10} {
			want := -1
			if places := placesOf(l, key); len(places) > 0 {
				want = places[0]
			}
			if got := First(l, key); got != want {
				t.Fatalf("First(%v, %d) = %d, want %d", l, key, got, want)
			}
			if got := Has(l, key); got != (want >= 0) {
				t.Fatalf("Has(%v, %d) = %v", l, key, got)
			}
		}
	}
}

// P6.1: the first one of a thread counts, whatever its key is.
func TestOf(t *testing.T) {
	l := []Entry{{Thread: 5, Key: 8}, {Thread: 0, Key: 9}, {Thread: 5, Key: 9}, {Thread: 63, Key: 8}, {Thread: 0, Key: 8}}
	for thread, want := range map[int]int{5: 0, 0: 1, 63: 3, 8: -1, 9: -1, 1: -1, 64: -1, -1: -1, math.MaxInt: -1, math.MinInt: -1} {
		if got := Of(l, thread); got != want {
			t.Errorf("Of(%d) = %d, want %d", thread, got, want)
		}
	}
	for _, thread := range []int{0, -1, 3} {
		if Of(nil, thread) != -1 || Of([]Entry{}, thread) != -1 {
			t.Errorf("a queue of none has the thread %d", thread)
		}
	}
}

// P6.1: entries are found whatever they are: what is no thread, and the greatest key.
func TestFindsWhateverStands(t *testing.T) {
	l := []Entry{{Thread: 64}, {Thread: -1, Key: math.MaxUint32}, {Thread: math.MinInt, Key: 1}, {Thread: -1, Key: 1}}
	if Of(l, -1) != 1 || Of(l, 64) != 0 || Of(l, math.MinInt) != 2 {
		t.Errorf("Of: %d, %d, %d", Of(l, -1), Of(l, 64), Of(l, math.MinInt))
	}
	if First(l, math.MaxUint32) != 1 || First(l, 1) != 2 {
		t.Errorf("First: %d, %d", First(l, math.MaxUint32), First(l, 1))
	}
}

// P6.1: who only asks changes nothing.
func TestAskingChangesNothing(t *testing.T) {
	l := queue(8, 9, 8, 0)
	First(l, 8)
	Has(l, 9)
	Of(l, 3)
	if !slices.Equal(l, queue(8, 9, 8, 0)) {
		t.Errorf("%v", l)
	}
}

// P6.2: at each place, the first and the last one too, its entry, and all others.
func TestCut(t *testing.T) {
	for _, l := range append(queues(4), queue(make([]api.Addr, 70)...)) {
		for i := range l {
			e, left, done := Cut(l, i)
			if e != l[i] || !done {
				t.Fatalf("Cut(%v, %d) = %v, %v", l, i, e, done)
			}
			checkIs(t, "Cut", left, at(l, others(l, []int{i})...))
			checkOwn(t, "Cut", l, func(l []Entry) [][]Entry {
				_, left, _ := Cut(l, i)
				return [][]Entry{left}
			})
		}
	}
}

// P6.2: of what is no place nothing is cut out, and all of them are told.
func TestCutNoPlace(t *testing.T) {
	for _, l := range append(queues(4), []Entry{}, queue(make([]api.Addr, 70)...)) {
		for _, i := range noPlaces(len(l)) {
			if 0 <= i && i < len(l) {
				continue
			}
			e, left, done := Cut(l, i)
			if e != (Entry{}) || done {
				t.Fatalf("Cut(%v, %d) = %v, %v", l, i, e, done)
			}
			checkIs(t, "Cut of no place", left, l)
			checkOwn(t, "Cut of no place", l, func(l []Entry) [][]Entry {
				_, left, _ := Cut(l, i)
				return [][]Entry{left}
			})
		}
	}
}

// P6.2: a place in the room behind a queue is none.
func TestCutInTheRoomBehind(t *testing.T) {
	all := queue(8, 9, 8)
	e, left, done := Cut(all[:2], 2)
	if e != (Entry{}) || done {
		t.Errorf("%v, %v", e, done)
	}
	checkIs(t, "Cut", left, all[:2])
}

// P6.3: so many of a key are taken, the first ones; below 0 none.
func TestSome(t *testing.T) {
	for _, l := range queues(5) {
		for _, key := range []api.Addr{0, 8, 9, 10} {
			places := placesOf(l, key)
			for most := range len(places) + 3 {
				taken, left := Some(l, key, most)
				checkParted(t, "Some", l, taken, left, places[:min(most, len(places))])
			}
			for _, most := range []int{-1, -2, -len(places) - 1, math.MinInt, math.MinInt + 1, -1 << 32, 1 - 1<<32} {
				taken, left := Some(l, key, most)
				checkParted(t, "Some, below 0", l, taken, left, nil)
			}
			for _, most := range []int{99, 1 << 31, 1 << 32, math.MaxInt} {
				taken, left := Some(l, key, most)
				checkParted(t, "Some, more than there are", l, taken, left, places)
			}
		}
	}
}

// P6.3: of a queue of none nobody is taken or left.
func TestNoQueue(t *testing.T) {
	for _, l := range [][]Entry{nil, {}} {
		r := &row{}
		a, b := Some(l, 0, 5)
		c, d := Chosen(l, 0, r)
		if len(a)+len(b)+len(c)+len(d) != 0 || cap(a)+cap(b)+cap(c)+cap(d) != 0 || len(r.asked) != 0 {
			t.Error(a, b, c, d, r.asked)
		}
	}
}

// P6.3: answers of Some are memory of their own.
func TestSomeOwnMemory(t *testing.T) {
	for _, l := range queues(4) {
		for _, most := range []int{-1, 0, 1, 2, 9} {
			checkOwn(t, "Some", l, func(l []Entry) [][]Entry {
				taken, left := Some(l, 8, most)
				return [][]Entry{taken, left}
			})
		}
	}
}

// P6.3: no room behind, whatever the lengths of the answers are, and all in order.
func TestPartedLong(t *testing.T) {
	for long := range 80 {
		var keys []api.Addr
		for i := range long {
			keys = append(keys, api.Addr(i%2))
		}
		l := queue(keys...)
		for _, key := range []api.Addr{0, 1, 2} {
			places := placesOf(l, key)
			for most := range long + 2 {
				taken, left := Some(l, key, most)
				checkParted(t, "Some", l, taken, left, places[:min(most, len(places))])
			}
			taken, left := Chosen(l, key, always(ChTake))
			checkParted(t, "Chosen", l, taken, left, places)
		}
	}
}

// byWords: whom a row of choices takes of a key, and the tokens by which it is asked, as the chapter's words tell them.
func byWords(l []Entry, key api.Addr, choices []Choice) (places []int, asked []uint64) {
	for n, place := range placesOf(l, key) {
		asked = append(asked, l[place].Token)
		choice := ChTake
		if n < len(choices) {
			choice = choices[n]
		}
		switch choice {
		case ChTake:
			places = append(places, place)
		case ChSkip:
		default:
			return places, asked
		}
	}
	return places, asked
}

// P6.3: all short queues and all short rows of choices: who is taken, who is left, and of whom a filter is asked.
func TestChosen(t *testing.T) {
	rows := [][]Choice{nil}
	for from := 0; len(rows[from]) < 3; from++ {
		for _, c := range choices() {
			rows = append(rows, append(slices.Clone(rows[from]), c))
		}
	}
	for _, l := range queues(5) {
		for _, key := range []api.Addr{8, 0} {
			for _, one := range rows {
				r := &row{choices: one}
				taken, left := Chosen(l, key, r)
				places, asked := byWords(l, key, one)
				checkParted(t, "Chosen", l, taken, left, places)
				if !slices.Equal(r.asked, asked) {
					t.Fatalf("Chosen(%v, %d) by %v: asked by %v, want %v", l, key, one, r.asked, asked)
				}
			}
		}
	}
}

// P6.3: a filter that takes, skips, or stops at the first, a middle, and the last entry.
func TestChosenAtEachPlace(t *testing.T) {
	l := queue(8, 9, 8, 8, 9, 8, 8)
	places := placesOf(l, 8)
	for n := range places {
		for _, c := range []Choice{ChStop, 3, 255} {
			one := append(make([]Choice, n), c)
			taken, left := Chosen(l, 8, &row{choices: one})
			checkParted(t, "stops", l, taken, left, places[:n])
		}
		one := append(make([]Choice, n), ChSkip)
		taken, left := Chosen(l, 8, &row{choices: one})
		checkParted(t, "skips", l, taken, left, slices.Concat(places[:n], places[n+1:]))
		one = append(slices.Repeat([]Choice{ChSkip}, n), ChTake, ChStop)
		taken, left = Chosen(l, 8, &row{choices: one})
		checkParted(t, "takes", l, taken, left, places[n:n+1])
	}
}

// P6.3: a choice that is none of the three is as a stop, each of them.
func TestChosenAnotherChoice(t *testing.T) {
	l := queue(8, 9, 8, 8)
	for c := 2; c <= math.MaxUint8; c++ {
		r := &row{choices: []Choice{ChTake, Choice(c)}}
		taken, left := Chosen(l, 8, r)
		checkParted(t, "Chosen", l, taken, left, []int{0})
		if !slices.Equal(r.asked, []uint64{101, 103}) {
			t.Errorf("choice %d: asked by %v", c, r.asked)
		}
	}
}

// P6.3: a filter is asked by tokens, not by threads or places; equal ones are asked of each.
func TestChosenByTokens(t *testing.T) {
	l := []Entry{{Thread: 1, Key: 8, Token: 2}, {Thread: 2, Key: 8, Token: math.MaxUint64}, {Thread: 3, Key: 9, Token: 1}, {Thread: 4, Key: 8, Token: 1}, {Thread: 5, Key: 8, Token: 2}}
	for token, places := range map[uint64][]int{1: {3}, 2: {0, 4}, 3: nil, math.MaxUint64: {1}} {
		taken, left := Chosen(l, 8, byTokens(func(one uint64) Choice {
			if one == token {
				return ChTake
			}
			return ChSkip
		}))
		checkParted(t, "Chosen", l, taken, left, places)
	}
}

// P6.3: of no filter nothing is taken.
func TestChosenWithoutFilter(t *testing.T) {
	for _, l := range append(queues(4), []Entry{}) {
		for _, key := range []api.Addr{0, 8, 10} {
			taken, left := Chosen(l, key, nil)
			checkParted(t, "no filter", l, taken, left, nil)
		}
		checkOwn(t, "no filter", l, func(l []Entry) [][]Entry {
			taken, left := Chosen(l, 8, nil)
			return [][]Entry{taken, left}
		})
	}
}

// P6.3: answers of Chosen are memory of their own.
func TestChosenOwnMemory(t *testing.T) {
	for _, l := range queues(4) {
		for _, one := range [][]Choice{nil, {ChSkip}, {ChStop}, {ChTake, ChSkip}, {ChTake, 3}, {ChSkip, ChTake, ChStop}} {
			checkOwn(t, "Chosen", l, func(l []Entry) [][]Entry {
				taken, left := Chosen(l, 8, &row{choices: one})
				return [][]Entry{taken, left}
			})
		}
	}
}

// P6.4: a queue, and behind it what is moved, each with the key that is handed in, and else as it was.
func TestMoved(t *testing.T) {
	for _, l := range queues(3) {
		for _, moved := range queues(3) {
			for _, key := range []api.Addr{0, 8, 30, math.MaxUint32} {
				want := slices.Clone(l)
				for _, e := range moved {
					want = append(want, Entry{Thread: e.Thread, Key: key, Token: e.Token})
				}
				before := slices.Clone(moved)
				checkIs(t, "Moved", Moved(l, moved, key), want)
				if !slices.Equal(moved, before) {
					t.Fatalf("what is moved is %v, was %v", moved, before)
				}
			}
		}
	}
}

// P6.4: of none, behind none; one list of none and nothing (nil) are as good.
func TestMovedNone(t *testing.T) {
	for _, none := range [][]Entry{nil, {}} {
		checkIs(t, "none behind none", Moved(none, none, 8), nil)
		checkIs(t, "none behind some", Moved(queue(8, 9), none, 30), queue(8, 9))
		checkIs(t, "some behind none", Moved(none, queue(8, 9), 30), queue(30, 30))
	}
}

// P6.4: no room behind, whatever the length is.
func TestMovedLong(t *testing.T) {
	for long := range 70 {
		for _, moved := range []int{0, 1, 2, 5, 64} {
			keys := make([]api.Addr, moved)
			want := queue(make([]api.Addr, long)...)
			for i := range moved {
				want = append(want, Entry{Thread: i + 1, Key: 30, Token: uint64(i + 101)})
			}
			checkIs(t, "Moved", Moved(queue(make([]api.Addr, long)...), queue(keys...), 30), want)
		}
	}
}

// P6.4: what is moved may be a piece of the queue itself, or of the room behind it: it stays there, as it was.
func TestMovedPiece(t *testing.T) {
	long := 6
	for end := range long + 1 {
		for from := range long + 1 {
			for to := from; to <= long; to++ {
				all := queue(8, 9, 8, 0, 9, 8)
				before := slices.Clone(all)
				want := slices.Clone(all[:end])
				for _, e := range all[from:to] {
					want = append(want, Entry{Thread: e.Thread, Key: 30, Token: e.Token})
				}
				got := Moved(all[:end], all[from:to], 30)
				checkIs(t, "Moved, a piece", got, want)
				spoil(got)
				if !slices.Equal(all, before) {
					t.Fatalf("all is %v, was %v", all, before)
				}
			}
		}
	}
}

// P6.4: the answer of Moved is memory of its own, whichever of both lists is none.
func TestMovedOwnMemory(t *testing.T) {
	for _, l := range queues(4) {
		for _, other := range [][]Entry{nil, queue(8), queue(9, 8)} {
			checkOwn(t, "Moved behind it", l, func(l []Entry) [][]Entry { return [][]Entry{Moved(l, other, 8)} })
			checkOwn(t, "Moved behind another one", l, func(l []Entry) [][]Entry { return [][]Entry{Moved(other, l, 8)} })
		}
		checkOwn(t, "Moved behind itself", l, func(l []Entry) [][]Entry { return [][]Entry{Moved(l, l, 30)} })
	}
}

// checkWhole: that taken and left are all of a queue, each once, in order, and taken of the key alone.
func checkWhole(t *testing.T, l []Entry, key api.Addr, taken, left []Entry) {
	t.Helper()
	for _, e := range taken {
		if e.Key != key {
			t.Fatalf("%v is taken, of the key %d", e, key)
		}
	}
	// Threads of these queues rise, so that merged by threads they must be the queue.
	byThreads := func(x, y Entry) int { return cmp.Compare(x.Thread, y.Thread) }
	all := slices.Concat(taken, left)
	slices.SortStableFunc(all, byThreads)
	if !slices.Equal(all, l) {
		t.Fatalf("%v and %v are not all of %v", taken, left, l)
	}
	if !slices.IsSortedFunc(taken, byThreads) || !slices.IsSortedFunc(left, byThreads) {
		t.Fatalf("%v and %v do not stand in order", taken, left)
	}
}

// P6.5: whoever is taken, and whoever is left, are all that there were; of other keys nobody is taken.
func TestNobodyComesOrGoes(t *testing.T) {
	for _, l := range queues(5) {
		for _, key := range []api.Addr{0, 8, 9, 10} {
			for most := -1; most <= len(l)+1; most++ {
				taken, left := Some(l, key, most)
				checkWhole(t, l, key, taken, left)
			}
			for _, c := range choices() {
				for n := range 4 {
					taken, left := Chosen(l, key, &row{choices: append(make([]Choice, n), c)})
					checkWhole(t, l, key, taken, left)
				}
			}
			taken, left := Chosen(l, key, nil)
			checkWhole(t, l, key, taken, left)
		}
	}
}

// P6.5: equal entries are as many as they were.
func TestEqualEntries(t *testing.T) {
	e := Entry{Thread: 3, Key: 8, Token: 4}
	l := []Entry{e, e, {Thread: 3, Key: 9, Token: 4}, e}
	taken, left := Some(l, 8, 2)
	checkParted(t, "Some", l, taken, left, []int{0, 1})
	taken, left = Chosen(l, 8, &row{choices: []Choice{ChSkip, ChTake, ChSkip}})
	checkParted(t, "Chosen", l, taken, left, []int{1})
	one, rest, done := Cut(l, 1)
	if one != e || !done {
		t.Errorf("Cut: %v, %v", one, done)
	}
	checkIs(t, "Cut", rest, at(l, 0, 2, 3))
}

// P6.5: some of a key, as many as there are, is as chosen by one that takes all.
func TestSomeIsChosen(t *testing.T) {
	for _, l := range queues(6) {
		for _, key := range []api.Addr{0, 8, 9, 10} {
			for more := range 3 {
				taken, left := Some(l, key, len(placesOf(l, key))+more)
				chosen, rest := Chosen(l, key, always(ChTake))
				if !slices.Equal(taken, chosen) || !slices.Equal(left, rest) {
					t.Fatalf("of %v, %d: %v and %v, chosen %v and %v", l, key, taken, left, chosen, rest)
				}
			}
		}
	}
}

// The numbers of choices.
func TestChoices(t *testing.T) {
	if ChTake != 0 || ChSkip != 1 || ChStop != 2 {
		t.Error(ChTake, ChSkip, ChStop)
	}
}

// The chapter's examples.
func TestExamples(t *testing.T) {
	l := queue(8, 9, 8, 8)
	if got := First(l, 8); got != 0 {
		t.Errorf("First(8) = %d", got)
	}
	taken, left := Some(l, 8, 2)
	checkParted(t, "Some", l, taken, left, []int{0, 2})
	taken, left = Chosen(l, 8, byTokens(func(token uint64) Choice {
		return map[uint64]Choice{101: ChSkip, 104: ChStop}[token]
	}))
	checkParted(t, "Chosen", l, taken, left, []int{2})
}
