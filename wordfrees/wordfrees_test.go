package wordfrees

import (
	"math"
	"slices"
	"testing"

	"layby/api"
	"layby/cells"
	"layby/links"
	"layby/permits"
	"layby/tables"
	"layby/wordlocks"
	"layby/worlds"
)

// some word, and the one beside it.
const (
	some   = api.CellLock + 4
	beside = some + 1
)

// places of locks: words of all sorts, and bytes.
func places() []api.Addr {
	return []api.Addr{
		some, beside, api.CellTable, api.CellThreads, api.CellKey, api.CellLock, 511, 1023, 1025, api.RwFirst, api.CondFirst, api.KeyFirst, math.MaxUint32,
		api.MutexFirst, api.MutexFirst + 28, api.OnceFirst, api.OnceFirst + 4,
	}
}

// isByte: has an address a byte, as a mutex and a once have?
func isByte(a api.Addr) bool {
	for i := range api.Addr(8) {
		if a == 1024+4*i || a == 1120+4*i {
			return true
		}
	}
	return false
}

// brought to an address.
func brought(a api.Addr, v uint64) uint64 {
	if isByte(a) {
		return v % 256
	}
	return v
}

// What a word says, by plain numbers.

func locked(w uint64) bool { return w%2 == 1 }

func queued(w uint64) bool { return w/2%2 == 1 }

func head(w uint64) int {
	if n := w / 4; n >= 1 && n <= 64 {
		return int(n) - 1
	}
	return -1
}

// put a word: the bits, and the head.
func put(locked, queued bool, head int) uint64 {
	w := 4 * uint64(head+1)
	if locked {
		w++
	}
	if queued {
		w += 2
	}
	return w
}

// Words with a head: nobody has it, somebody has it; and so while somebody goes through the queue.

func free(head int) uint64 { return put(false, false, head) }

func had(head int) uint64 { return put(true, false, head) }

func freeQueued(head int) uint64 { return put(false, true, head) }

func hadQueued(head int) uint64 { return put(true, true, head) }

// heads of words, by what laid links say of them: none; first ones alone; behind one, and behind two others; without a tail; in a round.
func heads() []int { return []int{-1, 0, 5, 2, 63, 7, 20, 31} }

// words of all sorts: each head with each of the bits, and words with bits that say nothing.
func words() []uint64 {
	out := []uint64{260, 261, 262, 263, 1 << 34, 1<<34 | 5, 1<<34 | 27, 1 << 63, math.MaxUint64, math.MaxUint64 - 1, math.MaxUint64 - 2, math.MaxUint64 - 3}
	for _, h := range heads() {
		out = append(out, free(h), had(h), freeQueued(h), hadQueued(h))
	}
	return out
}

// world of a Spin.
func world(t *testing.T, spin int) *worlds.World {
	t.Helper()
	w, e := worlds.New(worlds.Config{Spin: spin, Most: 5, Draws: []uint64{3, 1, 4}})
	if w == nil || e != 0 {
		t.Fatalf("no world of Spin %d: %d", spin, e)
	}
	return w
}

// allLinks of a world.
func allLinks(w *worlds.World) [64]links.Link {
	var out [64]links.Link
	for t := range out {
		out[t] = w.Links.At(t)
	}
	return out
}

// lay links: 7 behind 2 behind 5, 63 behind 0, and 30 and 31, each one behind the other.
func lay(w *worlds.World) {
	for _, one := range [][2]int{{5, -1}, {2, 5}, {7, 2}, {0, -1}, {63, 0}, {30, 31}, {31, 30}} {
		w.Links.Push(one[0], one[1])
	}
}

// twin of a Free, and of all that it may change in a world, told by the chapters' words.
type twin struct {
	addr api.Addr
	line int // that comes next; 0: it is over
	w    uint64
	tail int

	word     uint64
	access   api.Access
	accesses int
	call     permits.Call
	calls    int
	permit   [128]bool
	links    [64]links.Link
}

// step of a twin: its line.
func (as *twin) step() {
	switch as.line {
	case 1:
		stood := as.word
		as.accessed(api.AcAdd, stood+math.MaxUint64)
		as.line = 2
		if queued(stood) || head(stood) == -1 {
			as.line = 0
		}
	case 2:
		as.accessed(api.AcLoad, as.word)
		as.w = as.word
		as.look()
	case 3:
		if as.cas(put(locked(as.w), true, head(as.w))) {
			as.seek()
		} else {
			as.look()
		}
	case 4:
		if as.cas(put(locked(as.w), false, head(as.w))) {
			as.line = 0
		} else {
			as.seek()
		}
	case 5:
		if as.cas(0) {
			as.line = 7
		} else {
			as.seek()
		}
	case 6:
		is := as.word
		if queued(is) {
			is -= 2
		}
		as.accessed(api.AcAnd, is)
		as.line = 7
	case 7:
		as.unparked(2*as.tail + 1)
		as.line = 0
	}
}

// look of a twin: LOOK.
func (as *twin) look() {
	as.line = 3
	if queued(as.w) || head(as.w) == -1 {
		as.line = 0
	}
}

// seek of a twin: SEEK.
func (as *twin) seek() {
	from := head(as.w)
	as.tail = as.found(from)
	switch {
	case as.tail == -1:
		as.line = 0
	case locked(as.w):
		as.line = 4
	case as.links[as.tail].Prev == -1:
		as.line = 5
	default:
		as.links[from].Tail = as.links[as.tail].Prev
		as.line = 6
	}
}

// found by links' Seek from a head on.
func (as *twin) found(from int) int {
	if from == -1 {
		return -1
	}
	at := from
	for range 64 {
		if as.links[at].Tail != -1 {
			break
		}
		next := as.links[at].Next
		if next == -1 {
			return -1
		}
		as.links[next].Prev = at
		at = next
	}
	as.links[from].Tail = as.links[at].Tail
	return as.links[from].Tail
}

// cas of a twin's word, from what is known: done? What stands is known then.
func (as *twin) cas(is uint64) bool {
	if as.word != as.w {
		as.accessed(api.AcCAS, as.word)
		as.w = as.word
		return false
	}
	as.accessed(api.AcCAS, is)
	as.w = is
	return true
}

// accessed: an access of a kind was made, of a value.
func (as *twin) accessed(k api.AcKind, is uint64) {
	is = brought(as.addr, is)
	as.access = api.Access{Kind: k, Addr: as.addr, Was: as.word, Is: is}
	as.accesses++
	as.word = is
}

// unparked: a parker was.
func (as *twin) unparked(parker int) {
	as.call = permits.Call{Kind: permits.CaUnpark, Parker: parker}
	as.calls++
	as.permit[parker] = true
}

// push a thread ahead of a head, in a twin's links.
func (as *twin) push(thread, head int) {
	as.links[thread] = links.Link{Next: -1, Prev: -1, Tail: thread}
	if head != -1 {
		as.links[thread] = links.Link{Next: head, Prev: -1, Tail: -1}
	}
}

// pair: a Free in a world, and its twin.
type pair struct {
	w  *worlds.World
	x  *Free
	as *twin
}

// newPair of a Free that begins, at an address with a word. All parkers are asleep: so they tell who has a permit.
func newPair(t *testing.T, a api.Addr, word uint64) pair {
	t.Helper()
	w := world(t, 0)
	lay(w)
	for parker := range 128 {
		w.Permits.Park(parker)
	}
	as := &twin{addr: a, line: 1, links: allLinks(w), word: w.Cells.Peek(a), call: w.Permits.Last(), calls: 128}
	p := pair{w: w, x: NewFree(a), as: as}
	store(word)(p)
	return p
}

// act of somebody else, between two steps.
type act func(p pair)

func nothing(pair) {}

// store a word.
func store(word uint64) act {
	return func(p pair) {
		p.w.Cells.Store(p.as.addr, word)
		p.as.accessed(api.AcStore, word)
	}
}

// lock the word, whatever it is.
func lock(p pair) { store(p.as.word | 1)(p) }

// unlock the word, whatever it is.
func unlockIt(p pair) { store(p.as.word &^ 1)(p) }

// queue a thread, as a Lock does.
func queue(thread int) act {
	return func(p pair) {
		from := p.as.word
		push(thread, head(from))(p)
		store(put(locked(from), queued(from), thread))(p)
	}
}

// push a thread ahead of a head: no word says so yet.
func push(thread, head int) act {
	return func(p pair) {
		p.w.Links.Push(thread, head)
		p.as.push(thread, head)
	}
}

// cut a tail, as another Free does.
func cut(head, tail int) act {
	return func(p pair) {
		p.w.Links.Cut(head, tail)
		if prev := p.as.links[tail].Prev; prev != -1 {
			p.as.links[head].Tail = prev
		}
	}
}

// unpark a parker.
func unpark(parker int) act {
	return func(p pair) {
		p.w.Permits.Unpark(parker)
		p.as.unparked(parker)
	}
}

// step both, and hold them against each other.
func (p pair) step(t *testing.T) {
	t.Helper()
	steps, line := p.w.Steps(), p.as.line
	over := p.x.Step(p.w)
	p.as.step()
	if over != (p.as.line == 0) {
		t.Fatalf("behind line %d: Step = %v", line, over)
	}
	want := 1
	if line == 0 {
		want = 0
	}
	if got := p.w.Steps() - steps; got != want {
		t.Fatalf("line %d: %d steps", line, got)
	}
	p.check(t)
}

// check that a world and a Free tell what the twin tells.
func (p pair) check(t *testing.T) {
	t.Helper()
	as := p.as
	if p.x.Over() != (as.line == 0) {
		t.Fatalf("line %d is next: Over = %v", as.line, p.x.Over())
	}
	if got := p.w.Cells.Last(); got != as.access || p.w.Cells.Count() != as.accesses || p.w.Cells.Peek(as.addr) != as.word {
		t.Fatalf("line %d is next: %d accesses, the last one %+v; want %d, %+v", as.line, p.w.Cells.Count(), got, as.accesses, as.access)
	}
	if got := p.w.Permits.Last(); got != as.call || p.w.Permits.Count() != as.calls {
		t.Fatalf("line %d is next: %d calls, the last one %+v; want %d, %+v", as.line, p.w.Permits.Count(), got, as.calls, as.call)
	}
	for parker, want := range as.permit {
		if p.w.Permits.Goes(parker, 0) != want || !p.w.Permits.Asleep(parker) {
			t.Fatalf("line %d is next: Goes(%d) = %v, Asleep = %v", as.line, parker, !want, p.w.Permits.Asleep(parker))
		}
	}
	if got := allLinks(p.w); got != as.links {
		t.Fatalf("line %d is next: links %v, want %v", as.line, got, as.links)
	}
}

// checkRest: that nothing stands, and nothing was done, that no Free does.
func (p pair) checkRest(t *testing.T) {
	t.Helper()
	var want []cells.Word
	if p.as.addr != api.CellTable {
		want = append(want, cells.Word{Addr: api.CellTable, Value: 2})
	}
	if p.as.word != 0 {
		want = append(want, cells.Word{Addr: p.as.addr, Value: p.as.word})
	}
	if got := p.w.Cells.Words(); !slices.Equal(got, want) {
		t.Fatalf("words %v, want %v", got, want)
	}
	checkQuiet(t, p.w, 0)
}

// checkQuiet: that a world has what no Free changes, as at first.
func checkQuiet(t *testing.T, w *worlds.World, spin int) {
	t.Helper()
	if w.Notes.Count() != 0 || w.Clock.Now() != 0 || w.Clock.Left() != 3 || w.Spin != spin || w.Tokens != [64]uint64{} {
		t.Fatalf("%d notes, tick %d, %d draws, Spin %d, tokens %v", w.Notes.Count(), w.Clock.Now(), w.Clock.Left(), w.Spin, w.Tokens)
	}
	for bits := range 10 {
		if w.Tables.Has(bits) != (bits == 2) {
			t.Fatalf("tables of %d bits", bits)
		}
	}
	for i := range 4 {
		at := tables.Place{Bits: 2, Bucket: i}
		if w.Tables.Timer(at).At != 0 || w.Tables.Timer(at).Fired != 0 || len(w.Tables.Queue(at)) != 0 {
			t.Fatalf("bucket %d is not as at first", i)
		}
	}
}

// script: how a Free comes to a line.
type script struct {
	name string
	line int
	word uint64
	acts []act // each one behind what it is, and ahead of a step
}

// scripts to each line, from each line that leads to it.
func scripts() []script {
	return []script{
		{"1", 1, 1, nil},
		{"1, with a head", 1, had(7), nil},
		{"2 by 1", 2, had(5), []act{nothing}},
		{"2 by 1, of one that nobody had", 2, free(5), []act{nothing}},
		{"3 by 2", 3, had(5), []act{nothing, nothing}},
		{"3 by 2, locked meanwhile", 3, had(7), []act{nothing, lock}},
		{"3 by 3", 3, had(5), []act{nothing, nothing, store(free(7))}},
		{"3 by 3, locked meanwhile", 3, had(7), []act{nothing, nothing, lock}},
		{"4 by 3", 4, had(5), []act{nothing, lock, nothing}},
		{"4 by 3, several", 4, had(7), []act{nothing, lock, nothing}},
		{"4 by 4", 4, had(7), []act{nothing, lock, nothing, queue(9)}},
		{"4 by 5", 4, had(5), []act{nothing, nothing, nothing, lock}},
		{"5 by 3", 5, had(5), []act{nothing, nothing, nothing}},
		{"5 by 4", 5, had(5), []act{nothing, lock, nothing, unlockIt}},
		{"5 by 5", 5, had(5), []act{nothing, nothing, nothing, store(freeQueued(0))}},
		{"6 by 3", 6, had(7), []act{nothing, nothing, nothing}},
		{"6 by 4", 6, had(7), []act{nothing, lock, nothing, unlockIt}},
		{"6 by 5", 6, had(5), []act{nothing, nothing, nothing, queue(9)}},
		{"7 by 5", 7, had(5), []act{nothing, nothing, nothing, nothing}},
		{"7 by 6", 7, had(7), []act{nothing, nothing, nothing, nothing}},
		{"over by 1, nobody is queued", 0, 1, []act{nothing}},
		{"over by 1, queued", 0, hadQueued(7), []act{nothing}},
		{"over by 2, no head", 0, had(5), []act{nothing, store(1)}},
		{"over by 2, queued", 0, had(5), []act{nothing, store(freeQueued(5))}},
		{"over by 3, no head", 0, had(5), []act{nothing, nothing, store(0)}},
		{"over by 3, queued", 0, had(5), []act{nothing, nothing, store(hadQueued(5))}},
		{"over by 3, no tail", 0, had(20), []act{nothing, nothing, nothing}},
		{"over by 3, a round", 0, had(31), []act{nothing, nothing, nothing}},
		{"over by 4", 0, had(5), []act{nothing, lock, nothing, nothing}},
		{"over by 4, no tail", 0, had(5), []act{nothing, lock, nothing, store(hadQueued(20))}},
		{"over by 5, no tail", 0, had(5), []act{nothing, nothing, nothing, store(freeQueued(20))}},
		{"over by 5, no head", 0, had(5), []act{nothing, nothing, nothing, store(2)}},
		{"over by 7", 0, had(5), []act{nothing, nothing, nothing, nothing, nothing}},
	}
}

// run acts, each one ahead of a step.
func (p pair) run(t *testing.T, acts []act) {
	t.Helper()
	for _, do := range acts {
		do(p)
		p.step(t)
	}
}

// begun: a pair that is at a script's line.
func (s script) begun(t *testing.T, a api.Addr) pair {
	t.Helper()
	p := newPair(t, a, s.word)
	p.check(t)
	p.run(t, s.acts)
	if p.as.line != s.line {
		t.Fatalf("%s: at line %d", s.name, p.as.line)
	}
	return p
}

// eachRow of so many acts, from a list.
func eachRow(from []act, many int, do func(row []act)) {
	at := make([]int, many)
	row := make([]act, many)
	for {
		for i, n := range at {
			row[i] = from[n]
		}
		do(row)
		i := 0
		for ; i < many; i++ {
			if at[i]++; at[i] < len(from) {
				break
			}
			at[i] = 0
		}
		if i == many {
			return
		}
	}
}

// allActs: whatever somebody else may do, with words of all sorts.
func allActs() []act {
	out := []act{
		nothing, lock, unlockIt, queue(9), queue(63), queue(5),
		push(5, 20), push(20, -1), push(5, -1), cut(7, 5), cut(63, 0), cut(9, 5),
		unpark(11), unpark(10), unpark(15),
	}
	for _, word := range words() {
		out = append(out, store(word))
	}
	return out
}

// P14.1: from each line on, whatever somebody else does ahead of the next two steps.
func TestLinesAnyWord(t *testing.T) {
	for _, s := range scripts() {
		many := 2
		if s.line == 0 {
			many = 1
		}
		eachRow(allActs(), many, func(row []act) {
			p := s.begun(t, some)
			p.run(t, row)
		})
	}
}

// P14.1: from each line on, five steps, between which few things are done.
func TestLinesAndOn(t *testing.T) {
	few := []act{nothing, lock, unlockIt, queue(9)}
	for _, s := range scripts() {
		if s.line == 0 {
			continue
		}
		eachRow(few, 5, func(row []act) {
			p := s.begun(t, some)
			p.run(t, row)
			p.checkRest(t)
		})
	}
}

// P14.1: each line at words and at bytes.
func TestLinesAnywhere(t *testing.T) {
	for _, a := range places() {
		for _, s := range scripts() {
			for _, word := range words() {
				p := s.begun(t, a)
				p.run(t, []act{store(word), nothing, nothing, nothing, nothing, nothing})
				p.checkRest(t)
			}
		}
	}
}

// draw of numbers that are always the same, one behind the other.
type draw uint64

// below a number: the next draw.
func (d *draw) below(n int) int {
	*d = *d*6364136223846793005 + 1442695040888963407
	return int(uint64(*d) >> 33 % uint64(n))
}

// P14.1: long runs tell what the chapter's words tell; where a Free is over, another one begins, mostly of a word that somebody is queued for.
func TestLongRuns(t *testing.T) {
	acts := allActs()
	for run := range 1500 {
		d := draw(run)
		p := newPair(t, places()[run%len(places())], words()[d.below(len(words()))])
		for range 60 {
			if do := d.below(4 * len(acts)); do < len(acts) {
				acts[do](p)
			}
			p.step(t)
			if p.as.line == 0 && d.below(2) == 0 {
				p.x, p.as.line = NewFree(p.as.addr), 1
				if d.below(4) > 0 {
					thread := d.below(60)
					push(thread, -1)(p)
					queue(thread + 1 + d.below(3))(p)
					store(had(head(p.as.word)))(p)
				}
			}
		}
		p.checkRest(t)
	}
}

// saw: what a step is to have done, by plain numbers.
type saw struct {
	access api.Access // of a step that is an access
	unpark int        // of a step that is a call: the parker; else 0
	over   bool
}

// checkSaw: that the next step of a Free does just that.
func checkSaw(t *testing.T, i int, x *Free, w *worlds.World, want saw) {
	t.Helper()
	accesses, calls := w.Cells.Count(), w.Permits.Count()
	over := x.Step(w)
	if over != want.over || x.Over() != want.over {
		t.Errorf("step %d: %v, Over = %v", i, over, x.Over())
	}
	if want.unpark != 0 {
		calls++
		if got := w.Permits.Last(); got != (permits.Call{Kind: permits.CaUnpark, Parker: want.unpark}) {
			t.Errorf("step %d: the call %+v, want an Unpark of %d", i, got, want.unpark)
		}
	}
	if want.access != (api.Access{}) {
		accesses++
		if got := w.Cells.Last(); got != want.access {
			t.Errorf("step %d: the access %+v, want %+v", i, got, want.access)
		}
	}
	if w.Cells.Count() != accesses || w.Permits.Count() != calls {
		t.Errorf("step %d: %d accesses, %d calls; want %d, %d", i, w.Cells.Count(), w.Permits.Count(), accesses, calls)
	}
}

// checkWay: that a Free of some word does just that, from its begin on, till it is over, and then nothing.
func checkWay(t *testing.T, w *worlds.World, way []saw) {
	t.Helper()
	x := NewFree(some)
	if x.Over() {
		t.Error("over ahead of its first step")
	}
	for i, one := range way {
		checkSaw(t, i+1, x, w, one)
	}
	checkSaw(t, len(way)+1, x, w, saw{over: true})
}

// Accesses of some word: what each found and left.

func add(was, is uint64) saw { return accessOf(api.AcAdd, was, is) }

func loaded(found uint64) saw { return accessOf(api.AcLoad, found, found) }

func cas(was, is uint64) saw { return accessOf(api.AcCAS, was, is) }

func and(was, is uint64) saw { return accessOf(api.AcAnd, was, is) }

func accessOf(k api.AcKind, was, is uint64) saw {
	return saw{access: api.Access{Kind: k, Addr: some, Was: was, Is: is}}
}

// last: a step behind which it is over.
func last(s saw) saw {
	s.over = true
	return s
}

// The chapter's examples.
func TestExamples(t *testing.T) {
	w := world(t, 0)
	w.Cells.Store(some, 1)
	checkWay(t, w, []saw{last(add(1, 0))})
	w.Cells.Store(some, 1)
	x := wordlocks.NewLock(5, some)
	for !w.Permits.Asleep(11) {
		x.Step(w)
	}
	if got := w.Cells.Peek(some); got != 25 {
		t.Fatalf("the word is %d", got)
	}
	checkWay(t, w, []saw{add(25, 24), loaded(24), cas(24, 26), cas(26, 0), last(saw{unpark: 11})})
	if w.Cells.Peek(some) != 0 || !w.Permits.Goes(11, 0) || w.Permits.Goes(10, 0) == w.Permits.Asleep(10) {
		t.Error("5 has no permit")
	}
}

// checkLinks of some threads.
func checkLinks(t *testing.T, w *worlds.World, want map[int]links.Link) {
	t.Helper()
	for thread, one := range want {
		if got := w.Links.At(thread); got != one {
			t.Errorf("At(%d) = %+v, want %+v", thread, got, one)
		}
	}
}

// P14.1: of three that are queued the first one is cut off, behind the CAS, and woken; then the second, then the third.
func TestOneByOne(t *testing.T) {
	w := world(t, 0)
	lay(w)
	w.Cells.Store(some, 33)
	checkWay(t, w, []saw{add(33, 32), loaded(32), cas(32, 34), and(34, 32), last(saw{unpark: 11})})
	checkLinks(t, w, map[int]links.Link{7: {Next: 2, Prev: -1, Tail: 2}, 2: {Next: 5, Prev: 7, Tail: -1}, 5: {Next: -1, Prev: 2, Tail: 5}})
	w.Cells.Add(some, 1)
	checkWay(t, w, []saw{add(33, 32), loaded(32), cas(32, 34), and(34, 32), last(saw{unpark: 5})})
	checkLinks(t, w, map[int]links.Link{7: {Next: 2, Prev: -1, Tail: 7}, 2: {Next: 5, Prev: 7, Tail: -1}})
	w.Cells.Add(some, 1)
	checkWay(t, w, []saw{add(33, 32), loaded(32), cas(32, 34), cas(34, 0), last(saw{unpark: 15})})
	checkLinks(t, w, map[int]links.Link{7: {Next: 2, Prev: -1, Tail: 7}})
	checkQuiet(t, w, 0)
}

// P14.1: what stood decides behind line 1, not what is there then.
func TestWhatStoodAtFirst(t *testing.T) {
	for _, one := range []struct {
		word, then uint64
		on         bool // does it go on?
	}{
		{0, math.MaxUint64, false}, {1, 0, false}, {2, 1, false}, {3, 2, false},
		{4, 3, true}, {5, 4, true}, {6, 5, false}, {7, 6, false},
		{24, 23, true}, {25, 24, true}, {26, 25, false}, {27, 26, false},
		{256, 255, true}, {257, 256, true}, {258, 257, false}, {259, 258, false},
		{260, 259, false}, {261, 260, false}, {262, 261, false}, {263, 262, false},
		{1 << 34, 1<<34 - 1, false}, {1<<34 | 5, 1<<34 | 4, false}, {1 << 63, 1<<63 - 1, false}, {math.MaxUint64, math.MaxUint64 - 1, false},
	} {
		w := world(t, 0)
		w.Cells.Store(some, one.word)
		want := add(one.word, one.then)
		want.over = !one.on
		checkSaw(t, 1, NewFree(some), w, want)
	}
}

// P14.1: one that nobody had goes round below its head, and finds that somebody goes through the queue.
func TestNobodyHadIt(t *testing.T) {
	for _, thread := range []int{0, 1, 5, 62, 63} {
		w := world(t, 0)
		w.Links.Push(thread, -1)
		word := uint64(4 * (thread + 1))
		w.Cells.Store(some, word)
		checkWay(t, w, []saw{add(word, word-1), last(loaded(word - 1))})
	}
}

// P14.1: at a byte sums go round at 8 bits; a head of up to 62 fits in.
func TestBytes(t *testing.T) {
	for _, a := range []api.Addr{api.MutexFirst, api.OnceFirst + 12} {
		w := world(t, 0)
		if !NewFree(a).Step(w) || w.Cells.Peek(a) != 255 {
			t.Errorf("byte %d: from 0 it is %d", a, w.Cells.Peek(a))
		}
		w.Links.Push(62, -1)
		w.Cells.Store(a, 253)
		x := NewFree(a)
		for range 4 {
			if x.Step(w) {
				t.Errorf("byte %d: over", a)
			}
		}
		if got := w.Cells.Peek(a); got != 0 || !x.Step(w) || w.Permits.Last().Parker != 125 {
			t.Errorf("byte %d: it is %d, and %+v", a, got, w.Permits.Last())
		}
	}
}

// do: something at a step, ahead of it; none: nothing.
type do func(w *worlds.World)

// checkMeanwhile: that a Free of some word does just that, where somebody else does something ahead of some steps.
func checkMeanwhile(t *testing.T, w *worlds.World, way []saw, ahead map[int]do) {
	t.Helper()
	x := NewFree(some)
	for i, one := range way {
		if is := ahead[i+1]; is != nil {
			is(w)
		}
		checkSaw(t, i+1, x, w, one)
	}
}

// word is stored.
func word(v uint64) do {
	return func(w *worlds.World) { w.Cells.Store(some, v) }
}

// P14.1: somebody locks it, is queued, or is gone, ahead of each line, by plain numbers.
func TestMeanwhile(t *testing.T) {
	queueing := func(w *worlds.World) {
		w.Links.Push(9, 7)
		w.Cells.Store(some, 42)
	}
	for name, one := range map[string]struct {
		from  uint64
		way   []saw
		ahead map[int]do
	}{
		"locked ahead of the load": {33, []saw{add(33, 32), loaded(33), cas(33, 35), last(cas(35, 33))}, map[int]do{2: word(33)}},
		"queued ahead of the load": {33, []saw{add(33, 32), last(loaded(34))}, map[int]do{2: word(34)}},
		"gone ahead of the load":   {25, []saw{add(25, 24), last(loaded(0))}, map[int]do{2: word(0)}},
		"no thread ahead of it":    {25, []saw{add(25, 24), last(loaded(260))}, map[int]do{2: word(260)}},

		"locked ahead of the first CAS":   {33, []saw{add(33, 32), loaded(32), cas(33, 33), cas(33, 35), last(cas(35, 33))}, map[int]do{3: word(33)}},
		"queued ahead of the first CAS":   {33, []saw{add(33, 32), loaded(32), last(cas(35, 35))}, map[int]do{3: word(35)}},
		"gone ahead of the first CAS":     {33, []saw{add(33, 32), loaded(32), last(cas(1, 1))}, map[int]do{3: word(1)}},
		"other head ahead of it":          {33, []saw{add(33, 32), loaded(32), cas(256, 256), cas(256, 258), and(258, 256), last(saw{unpark: 1})}, map[int]do{3: word(256)}},
		"thrice another head ahead of it": {33, []saw{add(33, 32), loaded(32), cas(4, 4), cas(12, 12), cas(24, 24), cas(24, 26), cas(26, 0), last(saw{unpark: 11})}, map[int]do{3: word(4), 4: word(12), 5: word(24)}},
		"no thread ahead of the CAS":      {33, []saw{add(33, 32), loaded(32), last(cas(1<<40|4, 1<<40|4))}, map[int]do{3: word(1<<40 | 4)}},
		"no tail":                         {85, []saw{add(85, 84), loaded(84), last(cas(84, 86))}, nil},
		"a round":                         {129, []saw{add(129, 128), loaded(128), last(cas(128, 130))}, nil},
		"no tail, locked":                 {85, []saw{add(85, 84), loaded(85), last(cas(85, 87))}, map[int]do{2: word(85)}},

		"freed ahead of leaving, one":       {25, []saw{add(25, 24), loaded(25), cas(25, 27), cas(26, 26), cas(26, 0), last(saw{unpark: 11})}, map[int]do{2: word(25), 4: word(26)}},
		"freed ahead of leaving, three":     {33, []saw{add(33, 32), loaded(33), cas(33, 35), cas(34, 34), and(34, 32), last(saw{unpark: 11})}, map[int]do{2: word(33), 4: word(34)}},
		"other head ahead of leaving":       {33, []saw{add(33, 32), loaded(33), cas(33, 35), cas(259, 259), last(cas(259, 257))}, map[int]do{2: word(33), 4: word(259)}},
		"gone ahead of leaving":             {33, []saw{add(33, 32), loaded(33), cas(33, 35), last(cas(3, 3))}, map[int]do{2: word(33), 4: word(3)}},
		"not queued any more, locked":       {33, []saw{add(33, 32), loaded(33), cas(33, 35), cas(33, 33), last(cas(33, 33))}, map[int]do{2: word(33), 4: word(33)}},
		"queued one more ahead of leaving":  {33, []saw{add(33, 32), loaded(33), cas(33, 35), cas(42, 42), and(42, 40), last(saw{unpark: 11})}, map[int]do{2: word(33), 4: queueing}},
		"no thread ahead of leaving":        {33, []saw{add(33, 32), loaded(33), cas(33, 35), last(cas(1<<50|5, 1<<50|5))}, map[int]do{2: word(33), 4: word(1<<50 | 5)}},
		"locked ahead of emptying":          {25, []saw{add(25, 24), loaded(24), cas(24, 26), cas(27, 27), last(cas(27, 25))}, map[int]do{4: word(27)}},
		"other queue ahead of emptying":     {25, []saw{add(25, 24), loaded(24), cas(24, 26), cas(34, 34), and(34, 32), last(saw{unpark: 11})}, map[int]do{4: word(34)}},
		"other one ahead of emptying":       {25, []saw{add(25, 24), loaded(24), cas(24, 26), cas(6, 6), cas(6, 0), last(saw{unpark: 1})}, map[int]do{4: word(6)}},
		"not queued any more":               {25, []saw{add(25, 24), loaded(24), cas(24, 26), cas(24, 24), cas(24, 0), last(saw{unpark: 11})}, map[int]do{4: word(24)}},
		"gone ahead of emptying":            {25, []saw{add(25, 24), loaded(24), cas(24, 26), last(cas(2, 2))}, map[int]do{4: word(2)}},
		"locked ahead of opening":           {33, []saw{add(33, 32), loaded(32), cas(32, 34), and(35, 33), last(saw{unpark: 11})}, map[int]do{4: word(35)}},
		"queued one more ahead of opening":  {33, []saw{add(33, 32), loaded(32), cas(32, 34), and(42, 40), last(saw{unpark: 11})}, map[int]do{4: queueing}},
		"bits that say nothing, at opening": {33, []saw{add(33, 32), loaded(32), cas(32, 34), and(math.MaxUint64, math.MaxUint64-2), last(saw{unpark: 11})}, map[int]do{4: word(math.MaxUint64)}},
		"not queued at opening":             {33, []saw{add(33, 32), loaded(32), cas(32, 34), and(33, 33), last(saw{unpark: 11})}, map[int]do{4: word(33)}},
		"whatever ahead of waking":          {33, []saw{add(33, 32), loaded(32), cas(32, 34), and(34, 32), last(saw{unpark: 11})}, map[int]do{5: word(257)}},
	} {
		t.Run(name, func(t *testing.T) {
			w := world(t, 0)
			lay(w)
			w.Cells.Store(some, one.from)
			checkMeanwhile(t, w, one.way, one.ahead)
		})
	}
}

// P14.1: who is found is the tail of that time: whoever is cut off by another one meanwhile is not woken, if it is looked for again.
func TestTailOfThatTime(t *testing.T) {
	w := world(t, 0)
	lay(w)
	w.Cells.Store(some, 33)
	checkMeanwhile(t, w, []saw{add(33, 32), loaded(33), cas(33, 35), cas(34, 34), and(34, 32), last(saw{unpark: 5})}, map[int]do{
		2: word(33),
		4: func(w *worlds.World) {
			w.Links.Cut(7, 5)
			w.Cells.Store(some, 34)
		},
	})
}

// P14.1: who locked it meanwhile, and is asked to go through the queue, has found the way already.
func TestLeavingFindsTheWay(t *testing.T) {
	w := world(t, 0)
	lay(w)
	w.Cells.Store(some, 33)
	checkMeanwhile(t, w, []saw{add(33, 32), loaded(33), cas(33, 35), last(cas(35, 33))}, map[int]do{2: word(33)})
	checkLinks(t, w, map[int]links.Link{7: {Next: 2, Prev: -1, Tail: 5}, 2: {Next: 5, Prev: 7, Tail: -1}, 5: {Next: -1, Prev: 2, Tail: 5}})
}

// P14.1: behind its last step a Free does nothing, and is over.
func TestOver(t *testing.T) {
	for _, s := range scripts() {
		if s.line != 0 {
			continue
		}
		p := s.begun(t, some)
		for _, then := range []uint64{0, 1, 25, 33, 35} {
			store(then)(p)
			for range 3 {
				if !p.x.Step(p.w) || !p.x.Over() || !p.x.Step(nil) || !p.x.Step(&worlds.World{}) {
					t.Errorf("%s: not over", s.name)
				}
				p.check(t)
			}
		}
	}
}

// P14.1: what is asked of it, ahead of each line, is no step, and changes nothing.
func TestAskedOften(t *testing.T) {
	for _, s := range scripts() {
		p := s.begun(t, some)
		for range 20 {
			p.check(t)
		}
		p.run(t, []act{nothing, nothing, nothing, nothing, nothing})
	}
}

// R3: no Free, and one that no call made, are over, and do nothing.
func TestNoFree(t *testing.T) {
	w := world(t, 2)
	lay(w)
	w.Cells.Store(some, 33)
	w.Cells.Store(0, 33)
	before := allLinks(w)
	for i, x := range []*Free{nil, {}, new(Free)} {
		for _, in := range []*worlds.World{w, nil, {}} {
			if !x.Over() || !x.Step(in) || !x.Over() {
				t.Errorf("Free %d is not over", i)
			}
		}
	}
	if w.Steps() != 2 || w.Cells.Peek(some) != 33 || w.Cells.Peek(0) != 33 || allLinks(w) != before {
		t.Error("they do something")
	}
	checkQuiet(t, w, 2)
}

// R3: in no world nothing is done, at each line: the Free goes on in a world as if it had not been asked.
func TestNoWorld(t *testing.T) {
	for _, s := range scripts() {
		p := s.begun(t, some)
		for range 3 {
			if p.x.Step(nil) != (s.line == 0) {
				t.Errorf("%s: Step = %v in no world", s.name, s.line != 0)
			}
			p.check(t)
		}
		p.run(t, []act{nothing, nothing, nothing, nothing, nothing, nothing})
	}
}

// R3: a world that no call made has nothing, and takes nothing: there a word of 0 is found, and no CAS is done.
func TestWorldThatNoCallMade(t *testing.T) {
	for _, s := range scripts() {
		var empty worlds.World
		p := s.begun(t, some)
		steps := 1
		for ; !p.x.Step(&empty) && steps < 20; steps++ {
		}
		want := 1
		if s.line == 6 {
			want = 2
		}
		if steps != want || !p.x.Over() {
			t.Errorf("%s: over in %d steps where nothing is, want %d", s.name, steps, want)
		}
		if empty != (worlds.World{}) {
			t.Errorf("%s: it has something: %v", s.name, empty)
		}
		p.as.line = 0
		p.check(t)
	}
}

// R3: worlds that lack a part: what there is is used.
func TestWorldsThatLackSomething(t *testing.T) {
	for i, one := range []struct {
		w     worlds.World
		steps int
		then  uint64
	}{
		{worlds.World{Cells: cells.New()}, 3, 26},
		{worlds.World{Cells: &cells.Cells{}, Permits: permits.New()}, 3, 26},
		{worlds.World{Cells: cells.New(), Links: &links.Set{}}, 5, 0},
		{worlds.World{Cells: cells.New(), Links: links.New(), Permits: &permits.Set{}}, 5, 0},
		{worlds.World{Links: links.New(), Permits: permits.New()}, 1, 0},
	} {
		w := one.w
		w.Links.Push(5, -1)
		w.Cells.Store(some, 25)
		x := NewFree(some)
		steps := 1
		for ; !x.Step(&w) && steps < 20; steps++ {
		}
		if steps != one.steps || w.Cells.Peek(some) != one.then {
			t.Errorf("world %d: %d steps, the word is %d", i, steps, w.Cells.Peek(some))
		}
		if unparked := w.Permits.Count() == 1; unparked != (one.steps == 5 && w.Permits != nil) {
			t.Errorf("world %d: unparked: %v", i, unparked)
		}
	}
}

// R1: a world is used in the step that it is handed to, and in no other.
func TestTwoWorlds(t *testing.T) {
	one, other := world(t, 0), world(t, 0)
	for _, w := range []*worlds.World{one, other} {
		w.Links.Push(5, -1)
		w.Cells.Store(some, 25)
	}
	other.Cells.Store(some, 24)
	x := NewFree(some)
	x.Step(one)
	x.Step(other)
	x.Step(one)
	if one.Cells.Peek(some) != 26 || other.Cells.Peek(some) != 24 || one.Cells.Count() != 3 || other.Cells.Count() != 3 {
		t.Error("a step is made in a world that it was not handed")
	}
	other.Cells.Store(some, 26)
	x.Step(other)
	x.Step(one)
	if one.Cells.Peek(some) != 26 || other.Cells.Peek(some) != 0 || one.Permits.Count() != 1 || other.Permits.Count() != 0 {
		t.Error("a step is made in a world that it was not handed")
	}
}

// P14.1: two Frees, of two words beside each other, mind nothing of each other.
func TestTwoFrees(t *testing.T) {
	w := world(t, 0)
	lay(w)
	w.Cells.Store(some, 33)
	w.Cells.Store(beside, 257)
	x, y := NewFree(some), NewFree(beside)
	for range 4 {
		x.Step(w)
		y.Step(w)
	}
	if w.Cells.Peek(some) != 32 || w.Cells.Peek(beside) != 256 {
		t.Errorf("the words are %d, %d", w.Cells.Peek(some), w.Cells.Peek(beside))
	}
	if !y.Step(w) || w.Permits.Last().Parker != 1 || x.Over() || !x.Step(w) || w.Permits.Last().Parker != 11 {
		t.Error("not the first one of its own is woken")
	}
}

// P14.3: with nobody queued one step; with somebody queued five, as many as there are.
func TestStepsByItself(t *testing.T) {
	for n := range 65 {
		for _, turn := range []int{1, 5, 63} {
			w := world(t, 0)
			last := -1
			for i := range n {
				w.Links.Push(i*turn%64, last)
				last = i * turn % 64
			}
			w.Cells.Store(some, had(last))
			x, steps := NewFree(some), 1
			for ; !x.Step(w) && steps < 20; steps++ {
			}
			want := 5
			if n == 0 {
				want = 1
			}
			if steps != want || w.Steps() != want+1 || w.Cells.Peek(some) != free(last) && n != 1 || w.Cells.Peek(some) != 0 && n == 1 {
				t.Errorf("%d queued: over in %d steps, the word is %d", n, steps, w.Cells.Peek(some))
			}
			if n > 0 && w.Permits.Last().Parker != 1 {
				t.Errorf("%d queued: %+v", n, w.Permits.Last())
			}
		}
	}
}

// P14.3: whatever the word and the links are, by itself it is over in five steps at most.
func TestStepsWhateverIsThere(t *testing.T) {
	for run := range 300 {
		d := draw(run)
		links := make([][2]int, d.below(12))
		for i := range links {
			links[i] = [2]int{d.below(8), d.below(9) - 1}
		}
		for word := range uint64(40) {
			if word == 39 {
				word = math.MaxUint64 - uint64(d.below(300))
			}
			w := world(t, 0)
			for _, one := range links {
				w.Links.Push(one[0], one[1])
			}
			w.Links.Seek(d.below(8))
			w.Cells.Store(places()[run%len(places())], word)
			x, steps := NewFree(places()[run%len(places())]), 1
			for ; !x.Step(w) && steps < 20; steps++ {
			}
			if steps > 5 || w.Steps() != steps+1 {
				t.Errorf("word %d, links %v: over in %d steps", word, links, steps)
			}
		}
	}
}

// client: a thread that locks a word, and frees it as soon as it has it, some times.
type client struct {
	lock *wordlocks.Lock
	free *Free // once it has the lock; else none
	left int   // how often more
	owes int   // whom its Free has taken out of the queue; -1: nobody
}

// crowd: clients of one word in a world, by their threads.
type crowd struct {
	w     *worlds.World
	addr  api.Addr
	all   map[int]*client
	owner int   // -1: nobody
	order []int // threads that are queued, the first one first
	woken []int // one by one
	steps int
}

// newCrowd of threads, at a word, each one so many times.
func newCrowd(w *worlds.World, a api.Addr, times int, threads ...int) *crowd {
	c := &crowd{w: w, addr: a, all: map[int]*client{}, owner: -1}
	w.Cells.Store(a, 0)
	for _, one := range threads {
		c.all[one] = &client{lock: wordlocks.NewLock(one, a), left: times, owes: -1}
	}
	return c
}

// step of a thread of a crowd.
func (c *crowd) step(t *testing.T, thread int) {
	t.Helper()
	one := c.all[thread]
	steps := c.w.Steps()
	c.steps++
	switch {
	case one.left == 0:
	case one.free == nil:
		c.lockStep(t, thread, one)
	default:
		c.freeStep(t, thread, one)
	}
	if got, done := c.w.Steps()-steps, one.left == 0; got > 1 || got == 0 && !done {
		t.Fatalf("thread %d: %d steps at once", thread, got)
	}
	word := c.w.Cells.Peek(c.addr)
	if locked(word) != (c.owner != -1) || !slices.Equal(c.queue(t, word), c.order) {
		t.Fatalf("the word is %d, it is %d's, the queue is %v; want %v", word, c.owner, c.queue(t, word), c.order)
	}
}

// lockStep of a thread that does not have it.
func (c *crowd) lockStep(t *testing.T, thread int, one *client) {
	t.Helper()
	waited := one.lock.Waits()
	over := one.lock.Step(c.w)
	if one.lock.Waits() && !waited {
		c.order = append(c.order, thread)
	}
	if !over {
		return
	}
	if c.owner != -1 {
		t.Fatalf("thread %d has it, and thread %d has", thread, c.owner)
	}
	c.owner = thread
	one.free = NewFree(c.addr)
}

// freeStep of a thread that had it, or still has.
func (c *crowd) freeStep(t *testing.T, thread int, one *client) {
	t.Helper()
	calls := c.w.Permits.Count()
	over := one.free.Step(c.w)
	// Its first step gives it back.
	if c.owner == thread {
		c.owner = -1
	}
	if got := c.queue(t, c.w.Cells.Peek(c.addr)); len(got) < len(c.order) {
		if one.owes != -1 {
			t.Fatalf("thread %d takes %d out, and more", thread, one.owes)
		}
		one.owes = c.order[0]
		c.order = slices.Clone(c.order[1:])
	}
	if c.w.Permits.Count() != calls {
		if got := c.w.Permits.Last(); one.owes == -1 || got != (permits.Call{Kind: permits.CaUnpark, Parker: 2*one.owes + 1}) {
			t.Fatalf("thread %d: %+v, and it took %d out", thread, got, one.owes)
		}
		c.woken = append(c.woken, one.owes)
		one.owes = -1
	}
	if !over {
		return
	}
	if one.owes != -1 {
		t.Fatalf("thread %d has taken %d out, and not woken", thread, one.owes)
	}
	one.free = nil
	one.lock = wordlocks.NewLock(thread, c.addr)
	one.left--
}

// queue of a word: who came first is the first one.
func (c *crowd) queue(t *testing.T, word uint64) []int {
	t.Helper()
	from := head(word)
	if from == -1 {
		return nil
	}
	at := from
	for range 64 {
		if c.w.Links.At(at).Tail != -1 {
			break
		}
		at = c.w.Links.At(at).Next
	}
	tail := c.w.Links.At(at).Tail
	out := []int{from}
	for at = from; at != tail; {
		if at = c.w.Links.At(at).Next; at == -1 || len(out) > 64 {
			t.Fatalf("no way from %d to %d", from, tail)
		}
		out = append(out, at)
	}
	slices.Reverse(out)
	return out
}

// goes: may a thread go on, and is there something to do?
func (c *crowd) goes(thread int) bool {
	one := c.all[thread]
	return one.left > 0 && (one.free != nil || c.w.Permits.Goes(2*thread+1, 0))
}

// end of a crowd: all go on, by a rule, till nobody does.
func (c *crowd) end(t *testing.T, next func(may []int) int) {
	t.Helper()
	for range 200000 {
		var may []int
		for thread := range 64 {
			if c.all[thread] != nil && c.goes(thread) {
				may = append(may, thread)
			}
		}
		if len(may) == 0 {
			c.checkEnd(t)
			return
		}
		c.step(t, next(may))
	}
	t.Fatal("they go on for ever")
}

// checkEnd: that nobody is asleep, each one has had it, and the word is 0.
func (c *crowd) checkEnd(t *testing.T) {
	t.Helper()
	for thread, one := range c.all {
		if c.w.Permits.Asleep(2*thread+1) || one.left != 0 {
			t.Fatalf("thread %d: asleep: %v; it wants it %d times more", thread, c.w.Permits.Asleep(2*thread+1), one.left)
		}
	}
	if got := c.w.Cells.Peek(c.addr); got != 0 {
		t.Fatalf("the word is %d", got)
	}
}

// first of some.
func first(may []int) int { return may[0] }

// eachOrder of a crowd's steps, in which a thread that may go on stands back for another one so many times at most: made anew for each.
func eachOrder(t *testing.T, backs int, made func() *crowd) int {
	t.Helper()
	orders := 0
	var from func(steps []int, backs int)
	from = func(steps []int, backs int) {
		c := made()
		for _, one := range steps {
			c.step(t, one)
		}
		on := -1
		if len(steps) > 0 && c.goes(steps[len(steps)-1]) {
			on = steps[len(steps)-1]
		}
		ended := true
		for one := range c.all {
			if !c.goes(one) {
				continue
			}
			ended = false
			if on == -1 || on == one {
				from(append(slices.Clip(steps), one), backs)
			} else if backs > 0 {
				from(append(slices.Clip(steps), one), backs-1)
			}
		}
		if ended {
			orders++
			c.checkEnd(t)
		}
	}
	from(nil, backs)
	return orders
}

// P14.2: two threads in each order of their steps, three and four in those with few that stand back.
func TestEachOrder(t *testing.T) {
	for _, one := range []struct {
		spin, times, backs int
		threads            []int
	}{
		{0, 3, 99, []int{63}},
		{0, 1, 99, []int{0, 63}}, {1, 1, 99, []int{5, 4}}, {2, 1, 99, []int{1, 2}},
		{0, 2, 4, []int{62, 63}}, {1, 3, 2, []int{5, 4}},
		{0, 1, 3, []int{0, 7, 63}}, {1, 1, 2, []int{3, 2, 1}}, {0, 2, 1, []int{8, 9, 10}},
		{0, 1, 1, []int{4, 3, 2, 1}},
	} {
		orders := eachOrder(t, one.backs, func() *crowd { return newCrowd(world(t, one.spin), some, one.times, one.threads...) })
		if orders < len(one.threads) {
			t.Errorf("%v: %d orders", one.threads, orders)
		}
	}
}

// threadsFrom a number on, in a row of their own.
func threadsFrom(run, many int) []int {
	var out []int
	for i := range many {
		out = append(out, (i*37+run)%64)
	}
	return out
}

// P14.2: many threads, in many orders; those that are over, or asleep, are asked, too.
func TestManyOrders(t *testing.T) {
	for run := range 200 {
		d := draw(run)
		many := 1 + d.below(64)
		if run%2 == 0 {
			many = 2 + d.below(5)
		}
		threads := threadsFrom(run, many)
		c := newCrowd(world(t, d.below(4)), places()[run%13], 1+d.below(3), threads...)
		for range d.below(8 * many) {
			c.step(t, threads[d.below(many)])
		}
		c.end(t, func(may []int) int { return may[d.below(len(may))] })
	}
}

// P14.2: many orders in which a thread takes several steps ahead of others.
func TestRuns(t *testing.T) {
	for run := range 300 {
		d := draw(run)
		many := 2 + d.below(7)
		c := newCrowd(world(t, d.below(3)), some, 1+d.below(3), threadsFrom(run, many)...)
		on := -1
		c.end(t, func(may []int) int {
			if !slices.Contains(may, on) || d.below(6) == 0 {
				on = may[d.below(len(may))]
			}
			return on
		})
	}
}

// P14.2: in rounds, a step each; and one thread always ahead of all others.
func TestInRounds(t *testing.T) {
	for _, many := range []int{1, 2, 3, 7, 64} {
		for _, spin := range []int{0, 1, 16} {
			round := newCrowd(world(t, spin), some, 2, threadsFrom(0, many)...)
			on := -1
			round.end(t, func(may []int) int {
				on++
				return may[on%len(may)]
			})
			ahead := newCrowd(world(t, spin), some, 2, threadsFrom(0, many)...)
			ahead.end(t, first)
		}
	}
}

// asleep: a crowd of which one has the word, and all others are asleep for it, one behind the other.
func asleep(t *testing.T, a api.Addr, threads []int) *crowd {
	t.Helper()
	c := newCrowd(world(t, len(threads)%3), a, 1, threads...)
	for _, one := range threads {
		for c.owner != one && !c.w.Permits.Asleep(2*one+1) {
			c.step(t, one)
		}
	}
	if c.owner != threads[0] || !slices.Equal(c.order, threads[1:]) {
		t.Fatalf("%d has it, and %v are queued", c.owner, c.order)
	}
	return c
}

// P14.2: who sleeps is woken as it came, the first one first, where each one goes on till it has nothing to do.
func TestFirstIsWokenFirst(t *testing.T) {
	for many := 1; many <= 64; many += 3 {
		for run, a := range []api.Addr{some, api.RwFirst, 7} {
			threads := threadsFrom(run*11, many)
			c := asleep(t, a, threads)
			on := threads[0]
			c.end(t, func(may []int) int {
				if !slices.Contains(may, on) {
					on = may[0]
				}
				return on
			})
			if !slices.Equal(c.woken, threads[1:]) {
				t.Errorf("woken were %v, of %v", c.woken, threads)
			}
		}
	}
}

// P14.2: also if more come between: they are behind those that were there.
func TestMoreComeBetween(t *testing.T) {
	for many := 2; many <= 30; many += 4 {
		threads := threadsFrom(many, many)
		c := asleep(t, some, threads)
		late := threadsFrom(many+37*many, many)
		for i, one := range late {
			c.all[one] = &client{lock: wordlocks.NewLock(one, some), left: 1, owes: -1}
			for !c.w.Permits.Asleep(2*one + 1) {
				c.step(t, one)
			}
			// One is woken, has it, and keeps it, ahead of each one that comes.
			if i+1 >= many {
				break
			}
			for owner := c.owner; c.all[owner].left > 0; {
				c.step(t, owner)
			}
			for c.owner == -1 {
				c.step(t, threads[i+1])
			}
		}
		c.end(t, first)
		if want := append(slices.Clone(threads[1:]), late...); !slices.Equal(c.woken, want) {
			t.Errorf("woken were %v, want %v", c.woken, want)
		}
	}
}

// P14.2: who is woken, and finds that somebody was ahead of it, is queued again, behind all others.
func TestOvertaken(t *testing.T) {
	c := asleep(t, some, []int{1, 2, 3})
	for c.all[1].left > 0 {
		c.step(t, 1)
	}
	c.all[9] = &client{lock: wordlocks.NewLock(9, some), left: 1, owes: -1}
	for c.owner != 9 {
		c.step(t, 9)
	}
	for range 10 {
		c.step(t, 2)
	}
	if !slices.Equal(c.order, []int{3, 2}) {
		t.Errorf("queued are %v", c.order)
	}
	c.end(t, first)
	if !slices.Equal(c.woken, []int{2, 3, 2}) {
		t.Errorf("woken were %v", c.woken)
	}
}

// P14.2: two words beside each other, each one with threads of its own.
func TestTwoWords(t *testing.T) {
	for run := range 100 {
		d := draw(run)
		w := world(t, d.below(3))
		many := 1 + d.below(16)
		one, other := newCrowd(w, some, 2), newCrowd(w, beside, 2)
		for i := range many {
			one.all[2*i] = &client{lock: wordlocks.NewLock(2*i, some), left: 2, owes: -1}
			other.all[2*i+1] = &client{lock: wordlocks.NewLock(2*i+1, beside), left: 2, owes: -1}
		}
		for range 20 * many {
			if thread := d.below(2 * many); thread%2 == 0 {
				one.step(t, thread)
			} else {
				other.step(t, thread)
			}
		}
		pick := func(may []int) int { return may[d.below(len(may))] }
		one.end(t, pick)
		other.end(t, pick)
		checkQuiet(t, w, w.Spin)
	}
}
