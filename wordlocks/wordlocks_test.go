package wordlocks

import (
	"math"
	"slices"
	"testing"

	"layby/api"
	"layby/cells"
	"layby/clocks"
	"layby/links"
	"layby/notes"
	"layby/permits"
	"layby/tables"
	"layby/worlds"
)

// some word, and the one beside it.
const (
	some   = api.CellLock + 4
	beside = some + 1
)

// noThreads: numbers beside the threads, on both sides, and far away; among them what is a thread behind its low bits.
func noThreads() []int {
	return []int{
		-1, -2, -3, -63, -64, -65, -128, 64, 65, 66, 127, 128, 255, 256, 259, 1 << 31, 1<<32 - 1, 1 << 32, 1<<32 + 3, 1 << 62,
		math.MaxInt - 1, math.MaxInt, math.MinInt, math.MinInt + 1, math.MinInt + 3,
	}
}

// edges: the first and the last threads, and some between.
func edges() []int { return []int{0, 1, 2, 31, 32, 62, 63} }

// places of locks: words of all sorts, and bytes.
func places() []api.Addr {
	return []api.Addr{
		some, beside, api.CellTable, api.CellThreads, api.CellKey, api.CellLock, 511, 1023, 1025, api.RwFirst, api.CondFirst, api.KeyFirst, math.MaxUint32,
		api.MutexFirst, api.MutexFirst + 28, api.OnceFirst, api.OnceFirst + 4,
	}
}

// words of all sorts: free and had, with Queued and without, with a Head and without, and with bits that say nothing.
func words() []uint64 {
	return []uint64{
		0, 1, 2, 3, 4, 5, 6, 7, 16, 17, 18, 19, 24, 25, 256, 257, 258, 259,
		260, 261, 262, 263, 1 << 34, 1<<34 | 5, 1 << 63, 1<<63 | 1, math.MaxUint64, math.MaxUint64 - 1, math.MaxUint64 - 2, math.MaxUint64 - 3,
	}
}

// What a word says, by plain numbers.

func locked(w uint64) bool { return w%2 == 1 }

func queued(w uint64) bool { return w/2%2 == 1 }

func head(w uint64) int {
	if n := w / 4; n >= 1 && n <= 64 {
		return int(n) - 1
	}
	return -1
}

// put a word: the bits, and the head.
func put(locked, queued bool, head int) uint64 {
	w := 4 * uint64(head+1)
	if locked {
		w++
	}
	if queued {
		w += 2
	}
	return w
}

// brought to an address: a mutex and a once have a byte.
func brought(a api.Addr, v uint64) uint64 {
	for i := range api.Addr(8) {
		if a == 1024+4*i || a == 1120+4*i {
			return v % 256
		}
	}
	return v
}

// world of a Spin.
func world(t *testing.T, spin int) *worlds.World {
	t.Helper()
	w, e := worlds.New(worlds.Config{Spin: spin, Most: 5, Draws: []uint64{3, 1, 4}})
	if w == nil || e != 0 {
		t.Fatalf("no world of Spin %d: %d", spin, e)
	}
	return w
}

// allLinks of a world.
func allLinks(w *worlds.World) [64]links.Link {
	var out [64]links.Link
	for t := range out {
		out[t] = w.Links.At(t)
	}
	return out
}

// twin of a Lock, and of all that it may change in a world, told by the chapters' words.
type twin struct {
	thread int
	addr   api.Addr
	line   int // that comes next; 0: it is over
	stood  uint64
	left   int // spins

	spin     int // the world's
	word     uint64
	access   api.Access
	accesses int
	permit   bool // of the thread's word parker
	asleep   bool
	call     permits.Call
	calls    int
	links    [64]links.Link
}

// step of a twin: its line.
func (as *twin) step() {
	w := as.stood
	switch as.line {
	case 1:
		as.left = as.spin
		as.cas(0, 1, 0)
	case 2:
		as.cas(w, put(true, queued(w), head(w)), 0)
	case 3:
		as.accessed(api.AcLoad, as.word)
		as.turn(as.word)
	case 4:
		as.called(permits.CaPrepare)
		as.permit, as.asleep = false, false
		as.push(head(w))
		as.line = 5
	case 5:
		as.cas(w, put(locked(w), queued(w), as.thread), 6)
	case 6:
		as.called(permits.CaPark)
		if as.asleep = !as.permit; as.permit {
			as.permit = false
			as.left = as.spin
			as.line = 3
		}
	}
}

// cas of a twin's word: done, a line is next.
func (as *twin) cas(was, is uint64, next int) {
	stood := as.word
	if stood != was {
		as.accessed(api.AcCAS, stood)
		as.turn(stood)
		return
	}
	as.accessed(api.AcCAS, brought(as.addr, is))
	as.line = next
}

// turn of a twin: TURN.
func (as *twin) turn(stood uint64) {
	as.stood = stood
	as.line = 4
	if !locked(stood) {
		as.line = 2
	} else if head(stood) == -1 && as.left > 0 {
		as.left--
		as.line = 3
	}
}

// push a twin's thread ahead of a head.
func (as *twin) push(head int) {
	as.links[as.thread] = links.Link{Next: -1, Prev: -1, Tail: as.thread}
	if head != -1 {
		as.links[as.thread] = links.Link{Next: head, Prev: -1, Tail: -1}
	}
}

// accessed: an access of a kind was made, and something is there.
func (as *twin) accessed(k api.AcKind, is uint64) {
	as.access = api.Access{Kind: k, Addr: as.addr, Was: as.word, Is: is}
	as.accesses++
	as.word = is
}

// called: a call of a kind was made of the word parker.
func (as *twin) called(k permits.CallKind) {
	as.call = permits.Call{Kind: k, Parker: 2*as.thread + 1}
	as.calls++
}

// pair: a Lock in a world, and its twin.
type pair struct {
	w  *worlds.World
	x  *Lock
	as *twin
}

// newPair of a Lock that begins, at an address with a word; threads 40 to 42 are queued somewhere.
func newPair(t *testing.T, thread int, a api.Addr, spin int, word uint64) pair {
	t.Helper()
	w := world(t, spin)
	w.Links.Push(40, -1)
	w.Links.Push(41, 40)
	w.Links.Push(42, 41)
	w.Links.Seek(42)
	w.Permits.Unpark(2 * thread)
	as := &twin{thread: thread, addr: a, line: 1, spin: spin, links: allLinks(w), word: w.Cells.Peek(a)}
	as.call, as.calls = permits.Call{Kind: permits.CaUnpark, Parker: 2 * thread}, 1
	p := pair{w: w, x: NewLock(thread, a), as: as}
	store(word)(p)
	return p
}

// act of somebody else, between two steps.
type act func(p pair)

func nothing(pair) {}

// store a word.
func store(word uint64) act {
	return func(p pair) {
		p.w.Cells.Store(p.as.addr, word)
		p.as.accessed(api.AcStore, brought(p.as.addr, word))
	}
}

// unpark the word parker.
func unpark(p pair) {
	p.w.Permits.Unpark(2*p.as.thread + 1)
	p.as.called(permits.CaUnpark)
	p.as.permit = true
}

// unparkLot: the thread's other parker.
func unparkLot(p pair) {
	p.w.Permits.Unpark(2 * p.as.thread)
	p.as.called(permits.CaUnpark)
	p.as.call.Parker--
}

// spin: the world has another Spin from now on.
func spin(n int) act {
	return func(p pair) { p.w.Spin, p.as.spin = n, n }
}

// step both, and hold them against each other.
func (p pair) step(t *testing.T) {
	t.Helper()
	steps, line := p.w.Steps(), p.as.line
	over := p.x.Step(p.w)
	p.as.step()
	if over != (p.as.line == 0) {
		t.Fatalf("thread %d, behind line %d: Step = %v", p.as.thread, line, over)
	}
	want := 1
	if line == 0 {
		want = 0
	}
	if got := p.w.Steps() - steps; got != want {
		t.Fatalf("thread %d, line %d: %d steps", p.as.thread, line, got)
	}
	p.check(t)
}

// check that a world and a Lock tell what the twin tells.
func (p pair) check(t *testing.T) {
	t.Helper()
	as := p.as
	if p.x.Over() != (as.line == 0) || p.x.Waits() != (as.line == 6) {
		t.Fatalf("thread %d, line %d is next: Over = %v, Waits = %v", as.thread, as.line, p.x.Over(), p.x.Waits())
	}
	if got := p.w.Cells.Last(); got != as.access || p.w.Cells.Count() != as.accesses || p.w.Cells.Peek(as.addr) != as.word {
		t.Fatalf("thread %d, line %d is next: %d accesses, the last one %+v; want %d, %+v", as.thread, as.line, p.w.Cells.Count(), got, as.accesses, as.access)
	}
	if got := p.w.Permits.Last(); got != as.call || p.w.Permits.Count() != as.calls {
		t.Fatalf("thread %d, line %d is next: %d calls, the last one %+v; want %d, %+v", as.thread, as.line, p.w.Permits.Count(), got, as.calls, as.call)
	}
	mine := 2*as.thread + 1
	for parker := range 128 {
		if got, want := p.w.Permits.Asleep(parker), parker == mine && as.asleep; got != want {
			t.Fatalf("thread %d, line %d is next: Asleep(%d) = %v", as.thread, as.line, parker, got)
		}
	}
	if got := p.w.Permits.Goes(mine, 0); got != (as.permit || !as.asleep) {
		t.Fatalf("thread %d, line %d is next: Goes = %v", as.thread, as.line, got)
	}
	if got := allLinks(p.w); got != as.links {
		t.Fatalf("thread %d, line %d is next: links %v, want %v", as.thread, as.line, got, as.links)
	}
}

// checkRest: that nothing stands that no Lock sets, and that the permits are as the twin's.
func (p pair) checkRest(t *testing.T) {
	t.Helper()
	var want []cells.Word
	if p.as.addr != api.CellTable {
		want = append(want, cells.Word{Addr: api.CellTable, Value: 2})
	}
	if p.as.word != 0 {
		want = append(want, cells.Word{Addr: p.as.addr, Value: p.as.word})
	}
	if got := p.w.Cells.Words(); !slices.Equal(got, want) {
		t.Fatalf("words %v, want %v", got, want)
	}
	checkQuiet(t, p.w, p.as.spin)
	for parker := range 128 {
		permit := parker == 2*p.as.thread || parker == 2*p.as.thread+1 && p.as.permit
		if got := p.w.Permits.Late(parker); got == permit {
			t.Fatalf("thread %d: Late(%d) = %v", p.as.thread, parker, got)
		}
	}
}

// checkQuiet: that a world has what no Lock changes, as at first.
func checkQuiet(t *testing.T, w *worlds.World, spin int) {
	t.Helper()
	if w.Notes.Count() != 0 || w.Clock.Now() != 0 || w.Clock.Left() != 3 || w.Spin != spin || w.Tokens != [64]uint64{} {
		t.Fatalf("%d notes, tick %d, %d draws, Spin %d, tokens %v", w.Notes.Count(), w.Clock.Now(), w.Clock.Left(), w.Spin, w.Tokens)
	}
	for bits := range 10 {
		if w.Tables.Has(bits) != (bits == 2) {
			t.Fatalf("tables of %d bits", bits)
		}
	}
	for i := range 4 {
		at := tables.Place{Bits: 2, Bucket: i}
		if w.Tables.Timer(at).At != 0 || w.Tables.Timer(at).Fired != 0 || len(w.Tables.Queue(at)) != 0 {
			t.Fatalf("bucket %d is not as at first", i)
		}
	}
}

// script: how a Lock comes to a line.
type script struct {
	name string
	line int
	spin int
	word uint64
	acts []act // each one behind what it is, and ahead of a step
}

// scripts to each line, from each line that leads to it.
func scripts() []script {
	return []script{
		{"1", 1, 0, 0, nil},
		{"1, with spins", 1, 2, 0, nil},
		{"2 by 1", 2, 1, 2, []act{nothing}},
		{"2 by 2", 2, 1, 2, []act{nothing, store(0)}},
		{"2 by 3", 2, 1, 1, []act{nothing, store(4)}},
		{"2 by 5", 2, 0, 1, []act{nothing, nothing, store(6)}},
		{"3 by 1", 3, 2, 1, []act{nothing}},
		{"3 by 2", 3, 2, 2, []act{nothing, store(3)}},
		{"3 by 3", 3, 2, 1, []act{nothing, nothing}},
		{"3 by 5", 3, 1, 5, []act{nothing, nothing, store(1)}},
		{"3 by 6", 3, 1, 5, []act{nothing, nothing, nothing, unpark}},
		{"4 by 1", 4, 0, 1, []act{nothing}},
		{"4 by 1, with a head", 4, 2, 17, []act{nothing}},
		{"4 by 2", 4, 0, 2, []act{nothing, store(3)}},
		{"4 by 3", 4, 1, 3, []act{nothing, nothing}},
		{"4 by 5", 4, 0, 1, []act{nothing, nothing, store(5)}},
		{"5 by 4", 5, 0, 1, []act{nothing, nothing}},
		{"5 by 4, with a head", 5, 1, 19, []act{nothing, nothing}},
		{"6 by 5", 6, 1, 5, []act{nothing, nothing, nothing}},
		{"6 by 6", 6, 1, 5, []act{nothing, nothing, nothing, nothing}},
	}
}

// run acts, each one ahead of a step.
func (p pair) run(t *testing.T, acts []act) {
	t.Helper()
	for _, do := range acts {
		do(p)
		p.step(t)
	}
}

// begun: a pair that is at a script's line.
func (s script) begun(t *testing.T, thread int, a api.Addr) pair {
	t.Helper()
	p := newPair(t, thread, a, s.spin, s.word)
	p.check(t)
	p.run(t, s.acts)
	if p.as.line != s.line {
		t.Fatalf("%s: at line %d", s.name, p.as.line)
	}
	return p
}

// eachRow of so many acts, from a list.
func eachRow(from []act, many int, do func(row []act)) {
	at := make([]int, many)
	row := make([]act, many)
	for {
		for i, n := range at {
			row[i] = from[n]
		}
		do(row)
		i := 0
		for ; i < many; i++ {
			if at[i]++; at[i] < len(from) {
				break
			}
			at[i] = 0
		}
		if i == many {
			return
		}
	}
}

// allActs: whatever somebody else may do, with words of all sorts.
func allActs() []act {
	out := []act{nothing, unpark, unparkLot, spin(0), spin(1), spin(16), spin(-1), spin(math.MaxInt)}
	for _, word := range words() {
		out = append(out, store(word))
	}
	return out
}

// P13.1, P13.2: from each line on, whatever somebody else does ahead of the next two steps.
func TestLinesAnyWord(t *testing.T) {
	for _, s := range scripts() {
		eachRow(allActs(), 2, func(row []act) {
			p := s.begun(t, 3, some)
			p.run(t, row)
		})
	}
}

// P13.1, P13.2: from each line on, five steps, between which few things are done.
func TestLinesAndOn(t *testing.T) {
	few := []act{nothing, unpark, store(0), store(1), store(10)}
	for _, s := range scripts() {
		eachRow(few, 5, func(row []act) {
			p := s.begun(t, 5, some)
			p.run(t, row)
			p.checkRest(t)
		})
	}
}

// P13.1, P13.2: each line at words and at bytes, of the first threads and of the last ones.
func TestLinesAnywhere(t *testing.T) {
	for _, a := range places() {
		for _, thread := range edges() {
			for _, s := range scripts() {
				for _, word := range words() {
					p := s.begun(t, thread, a)
					p.run(t, []act{store(word), nothing, nothing, unpark, nothing})
					p.checkRest(t)
				}
			}
		}
	}
}

// draw of numbers that are always the same, one behind the other.
type draw uint64

// below a number: the next draw.
func (d *draw) below(n int) int {
	*d = *d*6364136223846793005 + 1442695040888963407
	return int(uint64(*d) >> 33 % uint64(n))
}

// P13.1, P13.2: long runs tell what the chapter's words tell; where a Lock is over, another one begins.
func TestLongRuns(t *testing.T) {
	acts := allActs()
	for run := range 1500 {
		d := draw(run)
		p := newPair(t, d.below(40), places()[run%len(places())], d.below(17), words()[d.below(len(words()))])
		for range 60 {
			if do := d.below(3 * len(acts)); do < len(acts) {
				acts[do](p)
			}
			// A word that is free stays so at times alone: else most Locks would be over soon.
			if !locked(p.as.word) && d.below(4) > 0 {
				store(p.as.word + 1)(p)
			}
			p.step(t)
			if p.as.line == 0 && d.below(2) == 0 {
				p.x, p.as.line = NewLock(p.as.thread, p.as.addr), 1
			}
		}
		p.checkRest(t)
	}
}

// saw: what a step is to have done, by plain numbers.
type saw struct {
	access api.Access   // of a step that is an access
	call   permits.Call // of a step that is a call
	over   bool
	waits  bool
}

// checkSaw: that the next step of a Lock does just that.
func checkSaw(t *testing.T, i int, x *Lock, w *worlds.World, want saw) {
	t.Helper()
	accesses, calls := w.Cells.Count(), w.Permits.Count()
	over := x.Step(w)
	if over != want.over || x.Over() != want.over || x.Waits() != want.waits {
		t.Errorf("step %d: %v, Over = %v, Waits = %v", i, over, x.Over(), x.Waits())
	}
	if want.call != (permits.Call{}) {
		calls++
		if w.Permits.Last() != want.call {
			t.Errorf("step %d: the call %+v, want %+v", i, w.Permits.Last(), want.call)
		}
	}
	if want.access != (api.Access{}) {
		accesses++
		if w.Cells.Last() != want.access {
			t.Errorf("step %d: the access %+v, want %+v", i, w.Cells.Last(), want.access)
		}
	}
	if w.Cells.Count() != accesses || w.Permits.Count() != calls {
		t.Errorf("step %d: %d accesses, %d calls; want %d, %d", i, w.Cells.Count(), w.Permits.Count(), accesses, calls)
	}
}

// cas: a CAS of some word, and what it found and left.
func cas(was, is uint64) api.Access {
	return api.Access{Kind: api.AcCAS, Addr: some, Was: was, Is: is}
}

// load: a load of some word.
func load(found uint64) api.Access {
	return api.Access{Kind: api.AcLoad, Addr: some, Was: found, Is: found}
}

// call of a parker.
func call(k permits.CallKind, parker int) permits.Call {
	return permits.Call{Kind: k, Parker: parker}
}

// The chapter's examples.
func TestExamples(t *testing.T) {
	w := world(t, 1)
	checkSaw(t, 0, NewLock(3, some), w, saw{access: cas(0, 1), over: true})
	if got := w.Cells.Peek(some); got != 1 {
		t.Errorf("the word is %d", got)
	}
	x := NewLock(5, some)
	for i, want := range []saw{
		{access: cas(1, 1)},
		{access: load(1)},
		{call: call(permits.CaPrepare, 11)},
		{access: cas(1, 25), waits: true},
		{call: call(permits.CaPark, 11), waits: true},
	} {
		checkSaw(t, i, x, w, want)
	}
	if got := w.Cells.Peek(some); got != 25 || !w.Permits.Asleep(11) {
		t.Errorf("the word is %d", got)
	}
}

// P13.1: a whole way through all lines, by plain numbers.
func TestWholeWay(t *testing.T) {
	w := world(t, 1)
	w.Cells.Store(some, 1)
	x := NewLock(9, some)
	checkSaw(t, 1, x, w, saw{access: cas(1, 1)})
	checkSaw(t, 2, x, w, saw{access: load(1)})
	checkSaw(t, 3, x, w, saw{call: call(permits.CaPrepare, 19)})
	w.Cells.Store(some, 3)
	checkSaw(t, 4, x, w, saw{access: cas(3, 3)})
	checkSaw(t, 5, x, w, saw{call: call(permits.CaPrepare, 19)})
	checkSaw(t, 6, x, w, saw{access: cas(3, 43), waits: true})
	checkSaw(t, 7, x, w, saw{call: call(permits.CaPark, 19), waits: true})
	checkSaw(t, 8, x, w, saw{call: call(permits.CaPark, 19), waits: true})
	w.Permits.Unpark(19)
	checkSaw(t, 9, x, w, saw{call: call(permits.CaPark, 19)})
	w.Cells.Store(some, 7)
	checkSaw(t, 10, x, w, saw{access: load(7)})
	w.Cells.Store(some, 1)
	checkSaw(t, 11, x, w, saw{call: call(permits.CaPrepare, 19)})
	w.Cells.Store(some, 3)
	// The spin that was begun anew, and that the head left alone.
	if got := w.Links.At(9); got != (links.Link{Next: 0, Prev: -1, Tail: -1}) {
		t.Errorf("At(9) = %v", got)
	}
	checkSaw(t, 12, x, w, saw{access: cas(3, 3)})
	checkSaw(t, 13, x, w, saw{access: load(3)})
	checkSaw(t, 14, x, w, saw{call: call(permits.CaPrepare, 19)})
	if got := w.Links.At(9); got != (links.Link{Next: -1, Prev: -1, Tail: 9}) {
		t.Errorf("At(9) = %v", got)
	}
	w.Cells.Store(some, 38)
	checkSaw(t, 15, x, w, saw{access: cas(38, 38)})
	w.Cells.Store(some, 6)
	checkSaw(t, 16, x, w, saw{access: cas(6, 6)})
	checkSaw(t, 17, x, w, saw{access: cas(6, 7), over: true})
	checkSaw(t, 18, x, w, saw{over: true})
}

// P13.1: what is free is taken with what it says, and without what says nothing.
func TestTakeKeepsWhatIsSaid(t *testing.T) {
	for _, one := range []struct{ from, to uint64 }{
		{2, 3}, {4, 5}, {6, 7}, {256, 257}, {258, 259}, {260, 1}, {262, 3}, {1 << 34, 1}, {1<<34 | 4, 1}, {1<<34 | 6, 3}, {1 << 63, 1}, {math.MaxUint64 - 1, 3}, {math.MaxUint64 - 3, 1},
	} {
		w := world(t, 4)
		w.Cells.Store(some, one.from)
		x := NewLock(7, some)
		checkSaw(t, 1, x, w, saw{access: cas(one.from, one.from)})
		checkSaw(t, 2, x, w, saw{access: cas(one.from, one.to), over: true})
	}
}

// P13.1: what is had is queued for with what it says, and without what says nothing.
func TestQueueKeepsWhatIsSaid(t *testing.T) {
	for _, one := range []struct {
		from, to uint64
		next     int
	}{
		{1, 33, -1}, {3, 35, -1}, {5, 33, 0}, {7, 35, 0}, {257, 33, 63}, {259, 35, 63}, {261, 33, -1}, {263, 35, -1}, {1<<34 | 5, 33, -1}, {1<<63 | 1, 33, -1}, {math.MaxUint64, 35, -1}, {math.MaxUint64 - 2, 33, -1}, {33, 33, 7},
	} {
		w := world(t, 0)
		w.Cells.Store(some, one.from)
		x := NewLock(7, some)
		checkSaw(t, 1, x, w, saw{access: cas(one.from, one.from)})
		checkSaw(t, 2, x, w, saw{call: call(permits.CaPrepare, 15)})
		want := links.Link{Next: one.next, Prev: -1, Tail: -1}
		if one.next == -1 {
			want.Tail = 7
		}
		if got := w.Links.At(7); got != want {
			t.Errorf("from %d: At(7) = %v, want %v", one.from, got, want)
		}
		checkSaw(t, 3, x, w, saw{access: cas(one.from, one.to), waits: true})
		if got := w.Links.At(7); got != want {
			t.Errorf("from %d: At(7) = %v behind the CAS", one.from, got)
		}
	}
}

// looks: how many loads there are till a parker is prepared, from the next step on.
func looks(t *testing.T, x *Lock, w *worlds.World) int {
	t.Helper()
	calls, n := w.Permits.Count(), 0
	for ; n < 100; n++ {
		x.Step(w)
		if w.Permits.Count() != calls {
			return n
		}
		if got := w.Cells.Last().Kind; got != api.AcLoad {
			t.Fatalf("look %d is an access of kind %d", n, got)
		}
	}
	t.Fatal("it looks for ever")
	return n
}

// P13.1: as many looks as the world's Spin, behind the first step and behind OuGot, and at no other time.
func TestSpinsOfAWorld(t *testing.T) {
	for n := range 17 {
		w := world(t, n)
		w.Cells.Store(some, 1)
		x := NewLock(2, some)
		x.Step(w)
		if got := looks(t, x, w); got != n {
			t.Errorf("Spin %d: %d looks", n, got)
		}
		// A CAS that is not done: no spin is left.
		w.Cells.Store(some, 3)
		x.Step(w)
		if got := looks(t, x, w); got != 0 {
			t.Errorf("Spin %d: %d looks behind a CAS", n, got)
		}
		x.Step(w)
		x.Step(w)
		w.Permits.Unpark(5)
		x.Step(w)
		w.Cells.Store(some, 1)
		// The look that line 3 is, and the spins.
		if got := looks(t, x, w); got != n+1 {
			t.Errorf("Spin %d: %d looks behind OuGot", n, got)
		}
	}
}

// P13.1: spins are those of the world in which the first step is made, at that time.
func TestSpinsBeginWithTheFirstStep(t *testing.T) {
	for _, n := range []int{0, 1, 2, 15, 16} {
		for _, before := range []int{0, 1, 16} {
			w := world(t, before)
			w.Cells.Store(some, 1)
			x := NewLock(2, some)
			x.Step(nil)
			w.Spin = n
			x.Step(w)
			w.Spin = before
			if got := looks(t, x, w); got != n {
				t.Errorf("Spin %d, then %d: %d looks", before, n, got)
			}
			x.Step(w)
			x.Step(w)
			w.Spin = n
			w.Permits.Unpark(5)
			x.Step(w)
			w.Spin = before
			w.Cells.Store(some, 1)
			if got := looks(t, x, w); got != n+1 {
				t.Errorf("Spin %d, then %d: %d looks behind OuGot", before, n, got)
			}
		}
	}
}

// P13.1: a head, and a word that is free, use no spin; each turn at a word that is had without a head uses one.
func TestSpinsThatAreUsed(t *testing.T) {
	w := world(t, 3)
	w.Cells.Store(some, 5)
	x := NewLock(2, some)
	x.Step(w) // CAS: a head
	x.Step(w) // Prepare
	w.Cells.Store(some, 2)
	x.Step(w) // CAS: free
	w.Cells.Store(some, 3)
	x.Step(w) // CAS: had: one spin
	w.Cells.Store(some, 6)
	x.Step(w) // load: free
	w.Cells.Store(some, 7)
	x.Step(w) // CAS: a head
	x.Step(w) // Prepare
	w.Cells.Store(some, 1)
	x.Step(w) // CAS: had: one spin
	if got := looks(t, x, w); got != 2 {
		t.Errorf("%d looks: one spin, and one that was used", got)
	}
}

// P13.1: spins are each Lock's own.
func TestSpinsOfTwo(t *testing.T) {
	w := world(t, 2)
	w.Cells.Store(some, 1)
	x, y := NewLock(2, some), NewLock(6, some)
	x.Step(w)
	y.Step(w)
	if looks(t, x, w) != 2 || looks(t, y, w) != 2 {
		t.Error("two Locks share their spins")
	}
}

// P13.1: a permit that was there ahead of Prepare is gone; one that is there ahead of the park is taken by it.
func TestPermits(t *testing.T) {
	for _, thread := range edges() {
		w := world(t, 0)
		w.Cells.Store(some, 1)
		w.Permits.Unpark(2*thread + 1)
		w.Permits.Unpark(2 * thread)
		x := NewLock(thread, some)
		for range 4 {
			x.Step(w)
		}
		if !x.Waits() || !w.Permits.Asleep(2*thread+1) || w.Permits.Asleep(2*thread) {
			t.Errorf("thread %d is not asleep", thread)
		}
		y := NewLock(thread, beside)
		w.Cells.Store(beside, 1)
		y.Step(w)
		y.Step(w)
		if w.Permits.Asleep(2*thread + 1) {
			t.Errorf("thread %d is asleep behind Prepare", thread)
		}
		w.Permits.Unpark(2*thread + 1)
		y.Step(w)
		if !y.Waits() || y.Step(w) || y.Waits() || w.Permits.Asleep(2*thread+1) {
			t.Errorf("thread %d does not find its permit", thread)
		}
		if w.Permits.Park(2*thread) != permits.OuGot {
			t.Errorf("thread %d has lost its lot parker's permit", thread)
		}
	}
}

// P13.1: behind its last step a Lock does nothing, and is over.
func TestOver(t *testing.T) {
	for _, word := range []uint64{0, 2, 4} {
		w := world(t, 2)
		w.Cells.Store(some, word)
		x := NewLock(4, some)
		for range 2 {
			x.Step(w)
		}
		for _, then := range []uint64{0, 1, 5, 7} {
			w.Cells.Store(some, then)
			steps := w.Steps()
			for range 3 {
				if !x.Step(w) || !x.Over() || x.Waits() || !x.Step(nil) || !x.Step(&worlds.World{}) {
					t.Errorf("word %d: not over", word)
				}
			}
			if w.Steps() != steps || w.Cells.Peek(some) != then {
				t.Errorf("word %d: it does something", word)
			}
		}
	}
}

// P13.1, R3: what is no thread, no Lock, and one that no call made are over, wait for nothing, and do nothing.
func TestNoLock(t *testing.T) {
	w := world(t, 2)
	all := []*Lock{nil, {}, new(Lock)}
	for _, thread := range noThreads() {
		for _, a := range places() {
			all = append(all, NewLock(thread, a))
		}
	}
	for i, x := range all {
		for _, in := range []*worlds.World{w, nil, {}} {
			if !x.Over() || x.Waits() || !x.Step(in) || !x.Over() || x.Waits() {
				t.Errorf("Lock %d is not over", i)
			}
		}
	}
	if w.Steps() != 0 || len(w.Cells.Words()) != 1 || allLinks(w) != allLinks(world(t, 0)) {
		t.Error("they do something")
	}
	checkQuiet(t, w, 2)
}

// P13.1: each number of a thread has a Lock of its own, and they alone.
func TestThreads(t *testing.T) {
	for thread := -70; thread <= 140; thread++ {
		w := world(t, 0)
		w.Cells.Store(some, 1)
		x := NewLock(thread, some)
		if x.Over() != (thread < 0 || thread > 63) {
			t.Errorf("thread %d: Over = %v", thread, x.Over())
			continue
		}
		for range 4 {
			x.Step(w)
		}
		want := uint64(1)
		if !x.Over() {
			want = put(true, false, thread)
		}
		if got := w.Cells.Peek(some); got != want {
			t.Errorf("thread %d: the word is %d", thread, got)
		}
	}
}

// R3: in no world nothing is done, at each line: the Lock goes on in a world as if it had not been asked.
func TestNoWorld(t *testing.T) {
	for _, s := range scripts() {
		p := s.begun(t, 3, some)
		for range 4 {
			if p.x.Step(nil) {
				t.Errorf("%s: over in no world", s.name)
			}
			p.check(t)
		}
		p.run(t, []act{nothing, nothing, unpark, nothing, store(0), nothing, nothing})
		p.x.Step(nil)
		p.check(t)
	}
}

// R3: a world that no call made has nothing, and takes nothing: no CAS is done, and nothing that stood is locked.
func TestWorldThatNoCallMade(t *testing.T) {
	var none worlds.World
	x := NewLock(3, some)
	for range 40 {
		if x.Step(&none) || x.Over() || x.Waits() {
			t.Fatal("over, or parked, where nothing is")
		}
	}
	if none != (worlds.World{}) {
		t.Errorf("it has something: %v", none)
	}
	w := world(t, 0)
	checkSaw(t, 1, x, w, saw{access: cas(0, 1), over: true})
	for _, s := range scripts() {
		p := s.begun(t, 3, some)
		for range 3 {
			if p.x.Step(&none) {
				t.Errorf("%s: over where nothing is", s.name)
			}
		}
		p.checkElsewhere(t, s.name)
	}
}

// checkElsewhere: that a world is as the twin's, whatever its Lock did in another one.
func (p pair) checkElsewhere(t *testing.T, name string) {
	t.Helper()
	if p.w.Cells.Count() != p.as.accesses || p.w.Permits.Count() != p.as.calls || p.w.Cells.Peek(p.as.addr) != p.as.word || allLinks(p.w) != p.as.links {
		t.Errorf("%s: steps of another world are steps of this one", name)
	}
}

// R3: worlds that lack a part: what there is is used.
func TestWorldsThatLackSomething(t *testing.T) {
	for i, w := range []worlds.World{
		{Cells: cells.New()},
		{Cells: &cells.Cells{}, Permits: &permits.Set{}},
		{Cells: cells.New(), Permits: permits.New(), Clock: &clocks.Clock{}, Notes: &notes.List{}},
		{Cells: cells.New(), Links: links.New()},
	} {
		w.Cells.Store(some, 1)
		x := NewLock(0, some)
		for range 3 {
			x.Step(&w)
		}
		if got := w.Cells.Peek(some); got != 5 || !x.Waits() {
			t.Errorf("world %d: the word is %d", i, got)
		}
		x.Step(&w)
		if !x.Waits() || w.Permits.Asleep(1) != (w.Permits != nil) {
			t.Errorf("world %d: nobody sleeps", i)
		}
		if w.Links != nil && w.Links.At(0) != (links.Link{Next: -1, Prev: -1, Tail: 0}) {
			t.Errorf("world %d: nobody is queued", i)
		}
	}
}

// R1: a world is used in the step that it is handed to, and in no other.
func TestTwoWorlds(t *testing.T) {
	one, other := world(t, 0), world(t, 0)
	one.Cells.Store(some, 1)
	other.Cells.Store(some, 1)
	x := NewLock(6, some)
	x.Step(one)
	x.Step(other)
	x.Step(one)
	if one.Cells.Peek(some) != 29 || other.Cells.Peek(some) != 1 || one.Links.At(6).Tail != -1 || other.Links.At(6).Tail != 6 {
		t.Error("a step is made in a world that it was not handed")
	}
	x.Step(other)
	if one.Permits.Asleep(13) || !other.Permits.Asleep(13) || one.Steps() != 3 || other.Steps() != 3 {
		t.Error("a park is made in a world that it was not handed")
	}
}

// P13.2: what a Lock answers of its waiting is no step, and changes nothing.
func TestAskedOften(t *testing.T) {
	for _, s := range scripts() {
		p := s.begun(t, 3, some)
		for range 20 {
			p.check(t)
		}
	}
}

// crowd: threads that lock one word in a world, that others may lock other words of.
type crowd struct {
	w     *worlds.World
	addr  api.Addr
	had   bool // from the start
	locks map[int]*Lock
	order []int // threads as they were queued
	over  []int // threads that have it
	went  bool  // did somebody take a step?
}

// newCrowd of threads, at a word that is free, or had.
func newCrowd(w *worlds.World, a api.Addr, had bool, threads ...int) *crowd {
	c := &crowd{w: w, addr: a, had: had, locks: map[int]*Lock{}}
	w.Cells.Store(a, put(had, false, -1))
	for _, one := range threads {
		c.locks[one] = NewLock(one, a)
	}
	return c
}

// step of a thread of a crowd.
func (c *crowd) step(t *testing.T, thread int) {
	t.Helper()
	x := c.locks[thread]
	over, waits, steps := x.Over(), x.Waits(), c.w.Steps()
	x.Step(c.w)
	c.went = true
	if x.Over() && !over {
		c.over = append(c.over, thread)
	}
	if x.Waits() && !waits {
		c.order = append(c.order, thread)
	}
	if got := c.w.Steps() - steps; got != 1 && !over || got != 0 && over {
		t.Fatalf("thread %d: %d steps at once", thread, got)
	}
	c.check(t)
}

// check what follows of a crowd.
func (c *crowd) check(t *testing.T) {
	t.Helper()
	owners := 0
	if c.went && !c.had {
		owners = 1
	}
	if len(c.over) != owners {
		t.Fatalf("these are over: %v", c.over)
	}
	want := put(c.went || c.had, false, -1)
	if n := len(c.order); n > 0 {
		want = put(true, false, c.order[n-1])
	}
	word := c.w.Cells.Peek(c.addr)
	if word != want {
		t.Fatalf("the word is %d, want %d: queued were %v", word, want, c.order)
	}
	queue := c.queue(word)
	if !slices.Equal(queue, c.order) {
		t.Fatalf("the queue is %v, want %v", queue, c.order)
	}
	for thread, x := range c.locks {
		if in := slices.Contains(queue, thread); c.w.Permits.Asleep(2*thread+1) && !in || x.Waits() != in {
			t.Fatalf("thread %d sleeps, or parks, and the queue is %v", thread, queue)
		}
	}
}

// queue of a word: who came first is the first one.
func (c *crowd) queue(word uint64) []int {
	var out []int
	for at := head(word); at != -1 && len(out) <= 64; at = c.w.Links.At(at).Next {
		out = append(out, at)
	}
	slices.Reverse(out)
	return out
}

// goes: may a thread go on, and is there something to do?
func (c *crowd) goes(thread int) bool {
	return !c.locks[thread].Over() && !c.w.Permits.Asleep(2*thread+1)
}

// end of a crowd: everybody is over or asleep; who came first is found.
func (c *crowd) end(t *testing.T) {
	t.Helper()
	for thread := range c.locks {
		for range 200 {
			if !c.goes(thread) {
				break
			}
			c.step(t, thread)
		}
		if c.goes(thread) {
			t.Fatalf("thread %d goes on for ever", thread)
		}
	}
	if len(c.order)+len(c.over) != len(c.locks) {
		t.Fatalf("%v are queued, %v are over, of %d", c.order, c.over, len(c.locks))
	}
	if n := len(c.order); n > 0 {
		if got := c.w.Links.Seek(c.order[n-1]); got != c.order[0] {
			t.Fatalf("%d came first, want %d", got, c.order[0])
		}
	}
}

// eachOrder of a crowd's steps: made anew for each, till nobody goes on.
func eachOrder(t *testing.T, made func() *crowd, threads []int) int {
	t.Helper()
	orders := 0
	var from func(steps []int)
	from = func(steps []int) {
		c := made()
		for _, one := range steps {
			c.step(t, one)
		}
		ended := true
		for _, one := range threads {
			if c.goes(one) {
				ended = false
				from(append(slices.Clip(steps), one))
			}
		}
		if ended {
			orders++
			c.end(t)
		}
	}
	from(nil)
	return orders
}

// P13.3: two and three threads, in each order of their steps.
func TestEachOrder(t *testing.T) {
	for _, one := range []struct {
		spin    int
		had     bool
		threads []int
	}{
		{0, false, []int{0}}, {3, true, []int{63}},
		{0, false, []int{0, 63}}, {1, false, []int{5, 4}}, {2, false, []int{62, 63}}, {3, false, []int{1, 0}}, {16, false, []int{1, 2}},
		{0, true, []int{0, 63}}, {1, true, []int{5, 4}}, {2, true, []int{62, 63}},
		{0, false, []int{0, 7, 63}}, {1, false, []int{3, 2, 1}},
	} {
		orders := eachOrder(t, func() *crowd { return newCrowd(world(t, one.spin), some, one.had, one.threads...) }, one.threads)
		if orders < len(one.threads) {
			t.Errorf("%v: %d orders", one.threads, orders)
		}
	}
}

// P13.3: many threads, in many orders; those that are over, or asleep, are asked, too.
func TestManyOrders(t *testing.T) {
	for run := range 250 {
		d := draw(run)
		c := newCrowd(world(t, d.below(4)), places()[run%13], run%3 == 0)
		many := 1 + d.below(64)
		for i := range many {
			c.locks[(i*37+run)%64] = NewLock((i*37+run)%64, c.addr)
		}
		for range 6 * many {
			c.step(t, (d.below(many)*37+run)%64)
		}
		c.end(t)
	}
}

// P13.3: one behind the other, each to its sleep: who came last is at the Head, and each one's Next is who came ahead of it.
func TestOneBehindTheOther(t *testing.T) {
	for n := 1; n <= 64; n++ {
		c := newCrowd(world(t, n%5), some, false)
		for thread := range n {
			c.locks[thread] = NewLock(thread, some)
			for c.goes(thread) {
				c.step(t, thread)
			}
		}
		c.end(t)
		if want := put(true, false, n-1); n > 1 && c.w.Cells.Peek(some) != want {
			t.Errorf("%d threads: the word is %d, want %d", n, c.w.Cells.Peek(some), want)
		}
	}
}

// P13.3: all together, a step each, in rounds.
func TestInRounds(t *testing.T) {
	for n := 1; n <= 64; n += 7 {
		for _, spin := range []int{0, 1, 16} {
			c := newCrowd(world(t, spin), some, false)
			for thread := range n {
				c.locks[thread] = NewLock(thread, some)
			}
			for range 20 + 2*n {
				for thread := range n {
					c.step(t, thread)
				}
			}
			c.end(t)
		}
	}
}

// P13.3: two words beside each other, each one with threads of its own, mind nothing of each other.
func TestTwoWords(t *testing.T) {
	for run := range 150 {
		d := draw(run)
		w := world(t, d.below(3))
		one, other := newCrowd(w, some, run%5 == 0), newCrowd(w, beside, run%7 == 0)
		many := 1 + d.below(32)
		for i := range many {
			one.locks[2*i], other.locks[2*i+1] = NewLock(2*i, some), NewLock(2*i+1, beside)
		}
		for range 12 * many {
			thread := d.below(2 * many)
			if thread%2 == 0 {
				one.step(t, thread)
				other.check(t)
			} else {
				other.step(t, thread)
				one.check(t)
			}
		}
		one.end(t)
		other.end(t)
	}
}
