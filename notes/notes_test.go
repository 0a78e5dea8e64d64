package notes

import (
	"math"
	"slices"
	"testing"

	"layby/api"
)

// greatest address.
const greatest api.Addr = math.MaxUint32

// called: kinds' names, each one's number written out.
func called() map[int]string {
	return map[int]string{
		1: "park", 2: "take", 3: "pick", 4: "move", 5: "gone",
		16: "lock", 17: "free", 18: "hand", 19: "busy", 20: "late", 21: "read", 22: "upgr", 23: "claim", 24: "write", 25: "unread", 26: "unupgr",
		27: "unclaim", 28: "unwrite", 29: "wait", 30: "wake", 31: "give", 32: "nobody", 33: "begin", 34: "end", 35: "fail", 36: "done", 37: "sick",
	}
}

// allKinds: the numbers of those that are kinds, the least one first.
func allKinds() []Kind {
	return []Kind{1, 2, 3, 4, 5, 16, 17, 18, 19, 20, 21, 22, 23, 24, 25, 26, 27, 28, 29, 30, 31, 32, 33, 34, 35, 36, 37}
}

// noKinds: all other numbers.
func noKinds() []Kind {
	none := []Kind{0, 6, 7, 8, 9, 10, 11, 12, 13, 14, 15}
	for k := 38; k <= 255; k++ {
		none = append(none, Kind(k))
	}
	return none
}

// steps of all sorts, each one greater than the one ahead of it.
func steps() []int {
	return []int{
		math.MinInt, math.MinInt + 1, -1 << 62, -1<<32 - 1, -1 << 32, -1<<31 - 1, -1 << 31, -256, -2, -1,
		0, 1, 2, 3, 255, 256, 1<<31 - 1, 1 << 31, 1<<32 - 1, 1 << 32, 1<<32 + 1, 1 << 62, math.MaxInt - 1, math.MaxInt,
	}
}

// places in a list of so many notes: at its ends, between, and far from it.
func places(count int) []int {
	return []int{
		math.MinInt, math.MinInt + 1, -1 << 62, -1 << 32, 1 - 1<<32, -1 << 31, -count - 1, -count, -2, -1, 0, 1, 2, count / 2, count - 2, count - 1,
		count, count + 1, count + 2, 2 * count, 1 << 31, 1 << 32, 1<<32 + 1, 1<<32 + count, 1 << 62, math.MaxInt - 1, math.MaxInt,
	}
}

// noted: a note of a step and a kind, all else of it told by a number.
func noted(step int, k Kind, x int) Note {
	return Note{Step: step, Thread: x, Kind: k, Addr: api.Addr(2*x + 1), Other: 3 - x, To: api.Addr(5 * x), Value: uint64(x) * 7}
}

// rising: so many notes, of all kinds, each two of them of one step.
func rising(many int) []Note {
	var l []Note
	for i := range many {
		l = append(l, noted(i/2, allKinds()[i%27], i))
	}
	return l
}

// listOf notes, each of them added.
func listOf(t *testing.T, notes []Note) *List {
	t.Helper()
	l := New()
	for i, n := range notes {
		if e := l.Add(n); e != api.OK {
			t.Fatalf("note %d, %v, of %d: %d", i, n, len(notes), e)
		}
	}
	return l
}

// from a place on: of notes, told one by one.
func from(notes []Note, at int) []Note {
	var rest []Note
	for i, n := range notes {
		if i >= at {
			rest = append(rest, n)
		}
	}
	return rest
}

// checkTold: that what was told is these, with no room behind.
func checkTold(t *testing.T, what string, got, want []Note) {
	t.Helper()
	if !slices.Equal(got, want) {
		t.Fatalf("%s: %d notes, %v, want %d, %v", what, len(got), short(got), len(want), short(want))
	}
	if cap(got) != len(got) {
		t.Fatalf("%s: %d notes, and room for %d", what, len(got), cap(got))
	}
	if len(want) == 0 && got != nil {
		t.Fatalf("%s: a list of nothing that is not nil", what)
	}
}

// short: a list's first notes, so that a fault's telling stays short.
func short(l []Note) []Note { return l[:min(len(l), 5)] }

// checkList: that a list has these notes, as Count, All and Since tell it.
func checkList(t *testing.T, l *List, want []Note) {
	t.Helper()
	if got := l.Count(); got != len(want) {
		t.Fatalf("Count = %d, want %d", got, len(want))
	}
	checkTold(t, "All", l.All(), want)
	checkTold(t, "Since(0)", l.Since(0), want)
	checkTold(t, "Since(-1)", l.Since(-1), want)
	checkTold(t, "Since the last one", l.Since(len(want)-1), from(want, len(want)-1))
	checkTold(t, "Since behind it", l.Since(len(want)), nil)
}

// P11.1: a new list has no notes, and is no other's.
func TestNew(t *testing.T) {
	l, other := New(), New()
	if l == nil || other == nil {
		t.Fatal("New is none")
	}
	checkList(t, l, nil)
	l.Add(noted(4, NtPark, 1))
	checkList(t, l, []Note{noted(4, NtPark, 1)})
	checkList(t, other, nil)
	checkList(t, New(), nil)
}

// P11.1: a note of each kind of the lot and of locks is taken, behind no note, and behind one of each kind.
func TestAddKinds(t *testing.T) {
	for _, k := range allKinds() {
		l := New()
		if e := l.Add(noted(3, k, 8)); e != 0 {
			t.Errorf("Add of kind %d behind no note = %d", k, e)
		}
		checkList(t, l, []Note{noted(3, k, 8)})
		for _, ahead := range allKinds() {
			l := listOf(t, []Note{noted(3, ahead, 9)})
			if e := l.Add(noted(3, k, 8)); e != 0 {
				t.Errorf("Add of kind %d behind one of kind %d = %d", k, ahead, e)
			}
			checkList(t, l, []Note{noted(3, ahead, 9), noted(3, k, 8)})
		}
	}
}

// P11.1: a note of no kind is refused, at whatever step, and changes nothing: what comes then may be of any step that it might have been.
func TestAddNoKinds(t *testing.T) {
	for _, k := range noKinds() {
		for _, had := range [][]Note{nil, {noted(3, NtSick, 1)}, rising(6)} {
			l := listOf(t, had)
			for _, step := range []int{0, 3, 4, 100, math.MaxInt, math.MinInt} {
				if e := l.Add(noted(step, k, 5)); e != 1 {
					t.Errorf("Add of kind %d at step %d behind %d notes = %d", k, step, len(had), e)
				}
				checkList(t, l, had)
			}
			if e := l.Add(noted(3, NtGone, 2)); e != 0 {
				t.Errorf("Add behind a note of kind %d, that was refused, = %d", k, e)
			}
			checkList(t, l, append(slices.Clone(had), noted(3, NtGone, 2)))
		}
	}
}

// P11.1: behind no note a note of each step is taken; behind one just those whose step is not below that one's.
func TestAddSteps(t *testing.T) {
	for i, first := range steps() {
		alone := listOf(t, []Note{noted(first, NtLock, 1)})
		checkList(t, alone, []Note{noted(first, NtLock, 1)})
		for j, next := range steps() {
			l := listOf(t, []Note{noted(first, NtLock, 1)})
			e := l.Add(noted(next, NtPark, 2))
			if j < i {
				if e != 1 {
					t.Errorf("Add at step %d behind %d = %d", next, first, e)
				}
				checkList(t, l, []Note{noted(first, NtLock, 1)})
				continue
			}
			if e != 0 {
				t.Errorf("Add at step %d behind %d = %d", next, first, e)
			}
			checkList(t, l, []Note{noted(first, NtLock, 1), noted(next, NtPark, 2)})
		}
	}
}

// P11.1: it is the last note's step that counts, not the first one's, nor that of one that was refused.
func TestAddBehindTheLast(t *testing.T) {
	l := New()
	var want []Note
	for i, c := range []struct {
		step int
		e    api.Errno
	}{
		{-9, 0}, {-10, 1}, {-9, 0}, {-2, 0}, {-3, 1}, {-9, 1}, {-2, 0}, {0, 0}, {-1, 1}, {0, 0}, {7, 0}, {6, 1}, {5, 1}, {6, 1}, {7, 0}, {8, 0}, {0, 1}, {7, 1}, {8, 0},
		{1 << 32, 0}, {9, 1}, {1<<32 - 1, 1}, {1 << 32, 0}, {math.MaxInt, 0}, {math.MinInt, 1}, {math.MaxInt - 1, 1}, {math.MaxInt, 0}, {0, 1}, {math.MaxInt, 0},
	} {
		n := noted(c.step, allKinds()[i%27], i)
		if e := l.Add(n); e != c.e {
			t.Errorf("%d: Add at step %d = %d, want %d", i, c.step, e, c.e)
		}
		if c.e == 0 {
			want = append(want, n)
		}
		checkList(t, l, want)
	}
}

// P11.1: whatever else the note says, it is taken, and told as it was.
func TestAddWhatever(t *testing.T) {
	l := New()
	var want []Note
	add := func(n Note) {
		t.Helper()
		if e := l.Add(n); e != 0 {
			t.Errorf("Add(%v) = %d", n, e)
		}
		want = append(want, n)
		checkList(t, l, want)
	}
	for _, x := range steps() {
		add(Note{Step: 2, Thread: x, Kind: NtTake})
		add(Note{Step: 2, Other: x, Kind: NtPick})
		add(Note{Step: 2, Thread: x, Other: x, Kind: NtHand})
	}
	for _, a := range []api.Addr{0, 1, 64, 65, 256, 511, 1024, 1056, 1057, 1088, 1120, 1152, 1184, 1<<16 + 1, 1 << 31, greatest - 1, greatest} {
		add(Note{Step: 2, Addr: a, Kind: NtPark})
		add(Note{Step: 2, To: a, Kind: NtMove})
		add(Note{Step: 2, Addr: a, To: greatest - a, Kind: NtRead})
	}
	for _, v := range []uint64{0, 1, 255, 1 << 31, 1<<32 - 1, 1 << 32, 1<<63 - 1, 1 << 63, math.MaxUint64 - 1, math.MaxUint64} {
		add(Note{Step: 2, Value: v, Kind: NtSick})
	}
	for i, x := range steps() {
		add(Note{Step: 2 + i, Thread: x, Kind: allKinds()[i], Addr: greatest, Other: x, To: greatest, Value: math.MaxUint64})
	}
}

// P11.1: a note that says nothing but its kind is taken; one that says nothing is not.
func TestAddOfNothing(t *testing.T) {
	l := New()
	if e := l.Add(Note{}); e != 1 {
		t.Errorf("Add of a note of nothing = %d", e)
	}
	checkList(t, l, nil)
	if e := l.Add(Note{Kind: NtPark}); e != 0 {
		t.Errorf("Add of a note of a kind = %d", e)
	}
	checkList(t, l, []Note{{Kind: NtPark}})
	if e := l.Add(Note{}); e != 1 {
		t.Errorf("Add of a note of nothing, behind one, = %d", e)
	}
	checkList(t, l, []Note{{Kind: NtPark}})
}

// P11.1: the same note may be there more than once.
func TestAddAgain(t *testing.T) {
	l := New()
	var want []Note
	for range 40 {
		if e := l.Add(noted(1, NtMove, 6)); e != 0 {
			t.Errorf("Add of the same = %d", e)
		}
		want = append(want, noted(1, NtMove, 6))
		checkList(t, l, want)
	}
}

// P11.1: a list of 1048576 notes takes no more, and tells first what else is wrong.
func TestFull(t *testing.T) {
	const most = 1048576
	if api.MaxNotes != most {
		t.Fatalf("MaxNotes = %d", api.MaxNotes)
	}
	l := New()
	var want []Note
	for i := range most {
		n := noted(i/3, allKinds()[i%27], i)
		if e := l.Add(n); e != 0 {
			t.Fatalf("note %d: Add = %d", i, e)
		}
		want = append(want, n)
		if i == most-2 {
			checkList(t, l, want)
		}
	}
	checkList(t, l, want)
	end := want[most-1].Step
	for i, c := range []struct {
		n Note
		e api.Errno
	}{
		{noted(end, NtPark, 1), 9},
		{noted(end+1, NtSick, 1), 9},
		{noted(math.MaxInt, NtLock, 1), 9},
		{want[most-1], 9},
		{noted(end-1, NtPark, 1), 1},
		{noted(0, NtLock, 1), 1},
		{noted(math.MinInt, NtLock, 1), 1},
		{noted(end, 0, 1), 1},
		{noted(end, 6, 1), 1},
		{noted(end+1, 15, 1), 1},
		{noted(end+1, 38, 1), 1},
		{noted(math.MaxInt, 255, 1), 1},
		{noted(end-1, 0, 1), 1},
		{Note{}, 1},
		{noted(end, NtPark, 1), 9},
	} {
		if e := l.Add(c.n); e != c.e {
			t.Errorf("%d: Add(%v) of a full list = %d, want %d", i, c.n, e, c.e)
		}
		if got := l.Count(); got != most {
			t.Fatalf("%d: Count = %d then", i, got)
		}
	}
	checkList(t, l, want)
	for _, at := range []int{1, 2, most / 2, most - 3, most - 2} {
		checkTold(t, "Since of a full list", l.Since(at), want[at:])
	}
	checkTold(t, "Since behind a full list", l.Since(most+1), nil)
}

// P11.1: where two faults come together, the kind and the step are one, and no list is told ahead of all.
func TestFaultsTogether(t *testing.T) {
	l := listOf(t, []Note{noted(5, NtPark, 1)})
	for _, k := range noKinds() {
		if e := l.Add(noted(4, k, 1)); e != 1 {
			t.Errorf("Add of kind %d at a step that fell = %d", k, e)
		}
	}
	checkList(t, l, []Note{noted(5, NtPark, 1)})
	var none *List
	for k := range 256 {
		for _, step := range []int{math.MinInt, -1, 0, 1, math.MaxInt} {
			if e := none.Add(noted(step, Kind(k), 1)); e != 2 {
				t.Errorf("Add of kind %d at step %d to no list = %d", k, step, e)
			}
		}
	}
}

// P11.2: of no notes, one and many: how many, all, and those from each place on.
func TestSince(t *testing.T) {
	for _, many := range []int{0, 1, 2, 3, 4, 5, 7, 8, 9, 16, 17, 31, 32, 33, 100, 255, 256, 257, 1000} {
		want := rising(many)
		l := listOf(t, want)
		checkList(t, l, want)
		for _, at := range places(many) {
			checkTold(t, "Since", l.Since(at), from(want, at))
		}
		for at := range min(many, 100) + 2 {
			checkTold(t, "Since", l.Since(at), from(want, at))
		}
		checkList(t, l, want)
	}
}

// P11.2: counts and ends, written out.
func TestSinceWrittenOut(t *testing.T) {
	a, b, c := noted(1, NtLock, 1), noted(1, NtFree, 2), noted(2, NtHand, 3)
	l := listOf(t, []Note{a, b, c})
	for at, want := range map[int][]Note{
		math.MinInt: {a, b, c}, -4: {a, b, c}, -3: {a, b, c}, -1: {a, b, c}, 0: {a, b, c}, 1: {b, c}, 2: {c}, 3: nil, 4: nil, 99: nil, 1<<32 + 1: nil, math.MaxInt: nil,
	} {
		checkTold(t, "Since", l.Since(at), want)
	}
}

// P11.2: what is told is new memory: what is stored in it, or appended to it, changes nothing in the list, nor what is told again.
func TestNewMemory(t *testing.T) {
	for _, many := range []int{1, 2, 3, 5, 8, 33} {
		want := rising(many)
		l := listOf(t, want)
		for _, at := range places(many) {
			early, again := l.Since(at), l.Since(at)
			whole := l.All()
			for i := range early {
				early[i] = Note{Step: -1, Thread: -1}
			}
			checkTold(t, "Since, told ahead", again, from(want, at))
			checkTold(t, "Since, told behind", l.Since(at), from(want, at))
			checkTold(t, "All, told ahead", whole, want)
			early = append(early[:0], noted(9, NtDone, 99))
			early = append(early, noted(9, NtDone, 98))
			whole = append(whole, early...)
			clear(whole)
			checkList(t, l, want)
			checkTold(t, "Since, told ahead of it all", again, from(want, at))
		}
	}
}

// P11.2: what was told stays as it was when notes come behind it, and what is appended to it does not stand where they come.
func TestToldStays(t *testing.T) {
	l := New()
	var want []Note
	var told [][]Note
	for i := range 70 {
		n := noted(i, NtWait, i)
		own := append(l.All(), noted(i, NtGive, -i))
		rest := append(l.Since(i/2), noted(i, NtGive, -i))
		if e := l.Add(n); e != 0 {
			t.Fatalf("Add = %d", e)
		}
		if got := own[i]; got != noted(i, NtGive, -i) || rest[len(rest)-1] != got {
			t.Errorf("what was appended to what was told is %v then", got)
		}
		want = append(want, n)
		checkList(t, l, want)
		told = append(told, l.All())
	}
	for i, one := range told {
		checkTold(t, "what was told", one, want[:i+1])
	}
}

// P11.2, P11.1: no list has no notes, and takes none.
func TestNoList(t *testing.T) {
	var none *List
	for range 2 {
		if e := none.Add(noted(1, NtPark, 1)); e != 2 {
			t.Errorf("Add to no list = %d", e)
		}
		checkList(t, none, nil)
		for _, at := range places(3) {
			checkTold(t, "Since of no list", none.Since(at), nil)
		}
	}
}

// P11.2: a list that no call made is one without notes, that takes them.
func TestListThatNoCallMade(t *testing.T) {
	var l List
	checkList(t, &l, nil)
	for _, at := range places(3) {
		checkTold(t, "Since", l.Since(at), nil)
	}
	if e := l.Add(noted(1, 6, 1)); e != 1 {
		t.Errorf("Add of no kind = %d", e)
	}
	checkList(t, &l, nil)
	var want []Note
	for i, n := range rising(20) {
		if e := l.Add(n); e != 0 {
			t.Errorf("Add of note %d = %d", i, e)
		}
		want = append(want, n)
		checkList(t, &l, want)
	}
	if e := l.Add(noted(8, NtPark, 1)); e != 1 {
		t.Errorf("Add at a step that fell = %d", e)
	}
	checkList(t, &l, want)
	checkList(t, new(List), nil)
}

// P11.3: each of the 256 numbers' names, and whether it is one of the lot's.
func TestNameAndLot(t *testing.T) {
	for k := range 256 {
		if got, want := Name(Kind(k)), called()[k]; got != want {
			t.Errorf("Name(%d) = %q, want %q", k, got, want)
		}
		lot := k == 1 || k == 2 || k == 3 || k == 4 || k == 5
		if got := Lot(Kind(k)); got != lot {
			t.Errorf("Lot(%d) = %v", k, got)
		}
	}
}

// P11.3: no two kinds have one name, and just kinds have one.
func TestNamesApart(t *testing.T) {
	has := map[string]Kind{}
	for _, k := range allKinds() {
		name := Name(k)
		if other, ok := has[name]; ok || name == "" {
			t.Errorf("kinds %d and %d are both %q", other, k, name)
		}
		has[name] = k
	}
	if len(has) != 27 {
		t.Errorf("%d names", len(has))
	}
	for _, k := range noKinds() {
		if name := Name(k); name != "" {
			t.Errorf("%d, that is no kind, is %q", k, name)
		}
	}
}

// P11.3: the kinds have the numbers that the chapter tells.
func TestNumbers(t *testing.T) {
	lot := []Kind{NtPark, NtTake, NtPick, NtMove, NtGone}
	locks := []Kind{
		NtLock, NtFree, NtHand, NtBusy, NtLate, NtRead, NtUpgr, NtClaim, NtWrite, NtUnread, NtUnupgr, NtUnclaim, NtUnwrite,
		NtWait, NtWake, NtGive, NtNobody, NtBegin, NtEnd, NtFail, NtDone, NtSick,
	}
	if got := append(lot, locks...); !slices.Equal(got, allKinds()) {
		t.Errorf("kinds are %v", got)
	}
	if NtNone != 0 || NtPark != 1 || NtGone != 5 || NtLock != 16 || NtSick != 37 {
		t.Error("the ends' numbers")
	}
	for name, k := range map[string]Kind{"hand": NtHand, "unclaim": NtUnclaim, "nobody": NtNobody, "sick": NtSick, "gone": NtGone, "upgr": NtUpgr} {
		if got := Name(k); got != name {
			t.Errorf("Name(%d) = %q, want %q", k, got, name)
		}
	}
}

// P11.4: whoever asks for those since a count that was told has just those that came behind it, each time, whatever was refused between.
func TestSinceACount(t *testing.T) {
	l := New()
	var whole, pieces []Note
	count := 0
	for round := range 60 {
		var came []Note
		for i := range round % 7 {
			n := noted(round, allKinds()[(round+i)%27], 100*round+i)
			if e := l.Add(n); e != 0 {
				t.Fatalf("Add = %d", e)
			}
			if e := l.Add(noted(round-1, NtPark, 1)); e != 1 {
				t.Fatalf("Add at a step that fell = %d", e)
			}
			came = append(came, n)
		}
		got := l.Since(count)
		checkTold(t, "those that came", got, came)
		pieces = append(pieces, got...)
		whole = append(whole, came...)
		count = l.Count()
		checkTold(t, "those behind them", l.Since(count), nil)
		checkList(t, l, whole)
	}
	if !slices.Equal(pieces, whole) {
		t.Error("the pieces are not the whole")
	}
}

// P11.4: each count that was ever told has the same behind it later, and more.
func TestSinceOldCounts(t *testing.T) {
	want := rising(50)
	l := New()
	for i, n := range want {
		if got := l.Count(); got != i {
			t.Fatalf("Count = %d ahead of note %d", got, i)
		}
		if e := l.Add(n); e != 0 {
			t.Fatalf("Add = %d", e)
		}
		for count := range i + 2 {
			checkTold(t, "Since a count", l.Since(count), from(want[:i+1], count))
		}
	}
}

// draw of numbers that are always the same, one behind the other.
type draw uint64

// below a number: the next draw.
func (d *draw) below(n int) int {
	*d = *d*6364136223846793005 + 1442695040888963407
	return int(uint64(*d) >> 33 % uint64(n))
}

// drawn: a note whose step is near the last one's, and whose kind is mostly one.
func drawn(d *draw, step int) Note {
	n := noted(step-1+d.below(4), allKinds()[d.below(27)], d.below(1<<20)-1<<19)
	if d.below(4) == 0 {
		n.Kind = Kind(d.below(256))
	}
	return n
}

// P11.1, P11.2, P11.4: long runs of calls tell what the chapter's words tell.
func TestLongRuns(t *testing.T) {
	for run := range 30 {
		d := draw(run)
		l := New()
		var want []Note
		last := math.MinInt
		for range 400 {
			n := drawn(&d, max(last, -3))
			e := api.OK
			if called()[int(n.Kind)] == "" || n.Step < last {
				e = api.ErrArg
			} else {
				want = append(want, n)
				last = n.Step
			}
			if got := l.Add(n); got != e {
				t.Fatalf("run %d: Add(%v) behind %d notes = %d, want %d", run, n, len(want), got, e)
			}
			at := d.below(len(want)+6) - 3
			checkTold(t, "Since", l.Since(at), from(want, at))
			if got := l.Count(); got != len(want) {
				t.Fatalf("run %d: Count = %d, want %d", run, got, len(want))
			}
		}
		checkList(t, l, want)
	}
}

// The chapter's examples.
func TestExamples(t *testing.T) {
	l := New()
	if e := l.Add(Note{Step: 3, Kind: NtPark}); e != api.OK {
		t.Errorf("the first one: %d", e)
	}
	if e := l.Add(Note{Step: 2, Kind: NtPark}); e != api.ErrArg {
		t.Errorf("a step that fell: %d", e)
	}
	if e := l.Add(Note{Step: 3, Kind: 6}); e != api.ErrArg {
		t.Errorf("no kind: %d", e)
	}
	if got := l.Count(); got != 1 {
		t.Errorf("Count = %d", got)
	}
	if got := Name(37); got != "sick" {
		t.Errorf("Name(37) = %q", got)
	}
	if got := Name(6); got != "" {
		t.Errorf("Name(6) = %q", got)
	}
}
