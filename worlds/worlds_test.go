package worlds

import (
	"math"
	"reflect"
	"slices"
	"testing"

	"layby/api"
	"layby/cells"
	"layby/clocks"
	"layby/fairs"
	"layby/lines"
	"layby/links"
	"layby/notes"
	"layby/permits"
	"layby/tables"
)

const (
	// last tick there is.
	last uint64 = math.MaxUint64
	// greatest address.
	greatest api.Addr = math.MaxUint32
)

// allKinds: the numbers of those that are kinds of notes, the least one first.
func allKinds() []notes.Kind {
	return []notes.Kind{1, 2, 3, 4, 5, 16, 17, 18, 19, 20, 21, 22, 23, 24, 25, 26, 27, 28, 29, 30, 31, 32, 33, 34, 35, 36, 37}
}

// noKinds: all other numbers.
func noKinds() []notes.Kind {
	none := []notes.Kind{0, 6, 7, 8, 9, 10, 11, 12, 13, 14, 15}
	for k := 38; k <= 255; k++ {
		none = append(none, notes.Kind(k))
	}
	return none
}

// mosts: of all sorts.
func mosts() []uint64 {
	return []uint64{0, 1, 2, 9, 255, 1<<32 - 1, 1 << 32, 1<<63 - 1, 1 << 63, last - 1, last}
}

// numbers of all sorts, that are asked for as threads, or as spins that are left.
func numbers() []int {
	return []int{
		math.MinInt, math.MinInt + 1, -1 << 32, -1 << 31, -2, -1, 0, 1, 2, 63, 64, 255, 256, 1 << 31, 1 << 32, math.MaxInt - 1, math.MaxInt,
	}
}

// drawsOf so many: no two that are near each other are the same.
func drawsOf(many int) []uint64 {
	var draws []uint64
	for i := range many {
		draws = append(draws, uint64(i)*uint64(i)+3)
	}
	return draws
}

// made: the world of a config that may be.
func made(t *testing.T, c Config) *World {
	t.Helper()
	w, e := New(c)
	if w == nil || e != 0 {
		t.Fatalf("New of Spin %d, Most %d and %d draws: %v, %d", c.Spin, c.Most, len(c.Draws), w, e)
	}
	return w
}

// at a place.
func at(bits, bucket int) tables.Place { return tables.Place{Bits: bits, Bucket: bucket} }

// bucket of a world, as it is told.
type bucket struct {
	place tables.Place
	timer fairs.Timer
	queue []lines.Entry
}

// telling: all that a world tells, without a step.
type telling struct {
	words  []cells.Word
	access api.Access
	count  int // of accesses
	now    uint64
	draws  int
	sleeps []int // parkers at which somebody sleeps
	goes   int   // parkers at which somebody goes on
	call   permits.Call
	calls  int
	links  [api.MaxThreads]links.Link
	bits   []int // of tables
	places []bucket
	notes  []notes.Note
	spin   int
	tokens [64]uint64
	steps  int
}

// tell of a world.
func tell(w *World) telling {
	one := telling{
		words: w.Cells.Words(), access: w.Cells.Last(), count: w.Cells.Count(), now: w.Clock.Now(), draws: w.Clock.Left(),
		call: w.Permits.Last(), calls: w.Permits.Count(), notes: w.Notes.All(), spin: w.Spin, tokens: w.Tokens, steps: w.Steps(),
	}
	for p := range 128 {
		if w.Permits.Asleep(p) {
			one.sleeps = append(one.sleeps, p)
		}
		if w.Permits.Goes(p, one.now) {
			one.goes++
		}
	}
	for thread := range one.links {
		one.links[thread] = w.Links.At(thread)
	}
	for bits := -1; bits < 11; bits++ {
		if !w.Tables.Has(bits) {
			continue
		}
		one.bits = append(one.bits, bits)
		for i := range 1 << bits {
			one.places = append(one.places, bucket{at(bits, i), w.Tables.Timer(at(bits, i)), w.Tables.Queue(at(bits, i))})
		}
	}
	return one
}

// asAtFirst: what a world of a config tells, when nothing was done.
func asAtFirst(spin, draws int) telling {
	one := telling{words: []cells.Word{{Addr: 0, Value: 2}}, draws: draws, goes: 128, bits: []int{2}, spin: spin}
	for i := range one.links {
		one.links[i] = links.Link{Next: -1, Prev: -1, Tail: -1}
	}
	for i := range 4 {
		one.places = append(one.places, bucket{place: at(2, i)})
	}
	return one
}

// checkTells: that a world tells just that.
func checkTells(t *testing.T, what string, w *World, want telling) {
	t.Helper()
	if got := tell(w); !reflect.DeepEqual(got, want) {
		t.Fatalf("%s: a world that tells %+v, want %+v", what, got, want)
	}
}

// checkNew: what New makes of a config.
func checkNew(t *testing.T, c Config, may bool) {
	t.Helper()
	w, e := New(c)
	if !may {
		if w != nil || e != 1 {
			t.Errorf("New of Spin %d, Most %d and %d draws: %v, %d", c.Spin, c.Most, len(c.Draws), w, e)
		}
		return
	}
	if w == nil || e != 0 {
		t.Fatalf("New of Spin %d, Most %d and %d draws: %v, %d", c.Spin, c.Most, len(c.Draws), w, e)
	}
	checkTells(t, "New", w, asAtFirst(c.Spin, len(c.Draws)))
}

// P12.1: Spin is 0 to 16, whatever Most is.
func TestNewSpin(t *testing.T) {
	if api.MaxSpin != 16 {
		t.Fatalf("MaxSpin = %d", api.MaxSpin)
	}
	spins := []int{
		math.MinInt, math.MinInt + 1, -1 << 32, 3 - 1<<32, -1 << 31, -256, -240, -17, -16, -2, 18, 31, 32, 255, 256, 257, 1 << 31, 1 << 32, 1<<32 + 3, math.MaxInt - 1, math.MaxInt,
	}
	for spin := -1; spin <= 17; spin++ {
		spins = append(spins, spin)
	}
	for _, spin := range spins {
		for _, most := range mosts() {
			checkNew(t, Config{Spin: spin, Most: most}, spin >= 0 && spin <= 16)
			checkNew(t, Config{Spin: spin, Most: most, Draws: drawsOf(3)}, spin >= 0 && spin <= 16)
		}
	}
}

// P12.1: there are 65536 draws at most, whatever Spin and Most are; both faults together are the same error.
func TestNewDraws(t *testing.T) {
	if api.MaxDraws != 65536 {
		t.Fatalf("MaxDraws = %d", api.MaxDraws)
	}
	many := drawsOf(131073)
	for _, n := range []int{0, 1, 2, 3, 1000, 65535, 65536, 65537, 65538, 131072, 131073} {
		for _, spin := range []int{-1, 0, 1, 16, 17} {
			for _, most := range []uint64{0, 7, last} {
				checkNew(t, Config{Spin: spin, Most: most, Draws: many[:n]}, n <= 65536 && spin >= 0 && spin <= 16)
			}
		}
	}
	checkNew(t, Config{Spin: math.MinInt, Draws: many}, false)
	checkNew(t, Config{Spin: math.MaxInt, Most: last, Draws: many}, false)
	checkNew(t, Config{}, true)
	checkNew(t, Config{Draws: []uint64{}}, true)
}

// P12.1: it is the length that counts, not the room behind, and a limit is a limit of what was handed in.
func TestNewRoomBehind(t *testing.T) {
	roomy := make([]uint64, 2, 100000)
	checkNew(t, Config{Draws: roomy}, true)
	w := made(t, Config{Draws: make([]uint64, 65536)})
	w.Clock.More([]uint64{1})
	if got := w.Clock.Left(); got != 65536 {
		t.Errorf("%d draws", got)
	}
}

// P12.1: the clock draws the config's draws, in order, each by the config's most.
func TestNewClock(t *testing.T) {
	draws := []uint64{0, 1, 7, 12, 10, 9, 1 << 40, last, last - 1, 1 << 63, 25}
	for _, most := range mosts() {
		w := made(t, Config{Most: most, Draws: draws})
		for i, d := range draws {
			want := d
			if most < last {
				want = d % (most + 1)
			}
			if got := w.Clock.Draw(); got != want {
				t.Errorf("draw %d of most %d = %d, want %d", i, most, got, want)
			}
		}
		if got := w.Clock.Draw(); got != 0 || w.Clock.Left() != 0 {
			t.Errorf("behind all draws: %d", got)
		}
	}
}

// P12.1: a world's parts are there: each of them keeps what it is handed.
func TestNewPartsKeep(t *testing.T) {
	w := made(t, Config{})
	w.Cells.Store(9, 7)
	w.Permits.Unpark(3)
	w.Clock.More([]uint64{1})
	w.Clock.Tick(2)
	w.Links.Push(4, -1)
	w.Links.Push(2, 4)
	if w.Cells.Peek(9) != 7 || w.Permits.Count() != 1 || w.Clock.Left() != 1 || w.Clock.Now() != 2 {
		t.Error("cells, permits or the clock keep nothing")
	}
	if got := w.Links.Seek(2); got != 4 {
		t.Errorf("the first of the links is %d", got)
	}
	if !w.Tables.Put(at(2, 3), []lines.Entry{{Thread: 5}}) || len(w.Tables.Places(5)) != 1 {
		t.Error("tables keep nothing")
	}
	if e := w.Notes.Add(notes.Note{Kind: notes.NtPark}); e != 0 || w.Notes.Count() != 1 {
		t.Error("notes keep nothing")
	}
}

// P12.1: a world as at first has no permits, nobody queued at a place, and each place's timer from tick 0.
func TestNewParts(t *testing.T) {
	w := made(t, Config{Spin: 5, Most: 3, Draws: drawsOf(4)})
	if got := w.Cells.Load(0); got != 2 {
		t.Errorf("CellTable says %d", got)
	}
	for _, a := range []api.Addr{1, 64, 127, 256, 260, 263, 511, 767, 1024, 1056, 1057, 1088, 1120, 1152, greatest} {
		if got := w.Cells.Load(a); got != 0 {
			t.Errorf("at %d stood %d", a, got)
		}
	}
	for p := range 128 {
		if !w.Permits.Late(p) || w.Permits.Park(p) != permits.OuBlocks {
			t.Errorf("parker %d has a permit", p)
		}
	}
	for thread := -1; thread <= 64; thread++ {
		if got := w.Tables.Places(thread); len(got) != 0 {
			t.Errorf("thread %d is at %v", thread, got)
		}
	}
	if w.Clock.Come(api.Until{On: true, At: 1}) || !w.Clock.Come(api.Until{On: true}) {
		t.Error("the clock is not at tick 0")
	}
}

// P12.1: draws that are handed in are not kept, and not changed.
func TestNewKeepsNothing(t *testing.T) {
	handed := []uint64{8, 6, 4, 2, 99}
	w := made(t, Config{Most: 9, Draws: handed[:4]})
	clear(handed)
	for i, want := range []uint64{8, 6, 4, 2, 0} {
		if got := w.Clock.Draw(); got != want {
			t.Errorf("draw %d = %d, want %d", i, got, want)
		}
	}
	again := []uint64{3, 5, 7, 77}
	w = made(t, Config{Most: 1, Draws: again[:3]})
	w.Clock.More([]uint64{11, 12, 13})
	w.Clock.Draw()
	w.Clock.More([]uint64{14})
	w.Clock.Tick(4)
	w.Fire(at(2, 0))
	if !slices.Equal(again, []uint64{3, 5, 7, 77}) {
		t.Errorf("what was handed in is %v", again)
	}
}

// P12.1: two worlds have nothing of each other, whatever is done with one.
func TestWorldsApart(t *testing.T) {
	c := Config{Spin: 4, Most: 20, Draws: drawsOf(9)}
	one, other := made(t, c), made(t, c)
	filled(one)
	checkTells(t, "the other one", other, asAtFirst(4, 9))
	checkTells(t, "a third one", made(t, c), asAtFirst(4, 9))
	before := tell(one)
	filled(other)
	other.Cells.Store(9, 1)
	other.Clock.Tick(1)
	checkTells(t, "the first one", one, before)
}

// filled: something of all sorts is done in a world.
func filled(w *World) {
	w.Cells.Store(api.CellTable, 3)
	w.Cells.Or(1152, 6)
	w.Permits.Unpark(3)
	w.Permits.Park(4)
	w.Links.Push(5, -1)
	w.Links.Push(6, 5)
	w.Tables.Put(at(2, 1), []lines.Entry{{Thread: 7, Key: 3}})
	w.Tables.Grow(2, 3, 1)
	w.Clock.Tick(6)
	w.Fire(at(3, 2))
	w.Note(1, notes.NtLock, 1024)
	w.Tokens[9] = 8
	w.Spin = 2
}

// deed: something that is done in a world.
type deed struct {
	name string
	do   func(w *World)
}

// accesses of each kind: a step each.
func accesses() []deed {
	return []deed{
		{"Load", func(w *World) { w.Cells.Load(0) }},
		{"Load elsewhere", func(w *World) { w.Cells.Load(greatest) }},
		{"Store", func(w *World) { w.Cells.Store(1024, 5) }},
		{"Store of what stood", func(w *World) { w.Cells.Store(1024, 5) }},
		{"CAS that is done", func(w *World) { w.Cells.CAS(1024, 5, 6) }},
		{"CAS that is not", func(w *World) { w.Cells.CAS(1024, 99, 7) }},
		{"Swap", func(w *World) { w.Cells.Swap(263, last) }},
		{"Add", func(w *World) { w.Cells.Add(1056, 16) }},
		{"Add of 0", func(w *World) { w.Cells.Add(1056, 0) }},
		{"And", func(w *World) { w.Cells.And(1056, 1) }},
		{"Or", func(w *World) { w.Cells.Or(1120, 2) }},
	}
}

// calls of each kind: a step each.
func calls() []deed {
	return []deed{
		{"Prepare", func(w *World) { w.Permits.Prepare(0) }},
		{"Unpark", func(w *World) { w.Permits.Unpark(0) }},
		{"Unpark again", func(w *World) { w.Permits.Unpark(0) }},
		{"Park with a permit", func(w *World) { w.Permits.Park(0) }},
		{"Park without one", func(w *World) { w.Permits.Park(0) }},
		{"Until a tick", func(w *World) { w.Permits.Until(127, 5, 4) }},
		{"Until a tick that is there", func(w *World) { w.Permits.Until(127, 5, 5) }},
		{"Late", func(w *World) { w.Permits.Late(127) }},
	}
}

// quiet: what is no access, and no call of a parker.
func quiet() []deed {
	var spins Spins
	return []deed{
		{"Count", func(w *World) { w.Cells.Count() }},
		{"Last", func(w *World) { w.Cells.Last() }},
		{"Peek", func(w *World) { w.Cells.Peek(0) }},
		{"Words", func(w *World) { w.Cells.Words() }},
		{"Byte", func(w *World) { cells.Byte(1024) }},
		{"Now", func(w *World) { w.Clock.Now() }},
		{"Tick", func(w *World) { w.Clock.Tick(3) }},
		{"After", func(w *World) { w.Clock.After(3) }},
		{"Come", func(w *World) { w.Clock.Come(api.Until{On: true}) }},
		{"Draw", func(w *World) { w.Clock.Draw() }},
		{"More", func(w *World) { w.Clock.More([]uint64{1, 2}) }},
		{"Left", func(w *World) { w.Clock.Left() }},
		{"Asleep", func(w *World) { w.Permits.Asleep(0) }},
		{"Goes", func(w *World) { w.Permits.Goes(0, 1) }},
		{"the calls' Count", func(w *World) { w.Permits.Count() }},
		{"the calls' Last", func(w *World) { w.Permits.Last() }},
		{"Unpark of no parker", func(w *World) { w.Permits.Unpark(128) }},
		{"Park at no parker", func(w *World) { w.Permits.Park(-1) }},
		{"Late of no parker", func(w *World) { w.Permits.Late(1 << 32) }},
		{"Push", func(w *World) { w.Links.Push(1, -1) }},
		{"At", func(w *World) { w.Links.At(1) }},
		{"Seek", func(w *World) { w.Links.Seek(1) }},
		{"Cut", func(w *World) { w.Links.Cut(1, 1) }},
		{"Has", func(w *World) { w.Tables.Has(2) }},
		{"Put", func(w *World) { w.Tables.Put(at(2, 0), []lines.Entry{{Thread: 1}}) }},
		{"Queue", func(w *World) { w.Tables.Queue(at(2, 0)) }},
		{"Timer", func(w *World) { w.Tables.Timer(at(2, 0)) }},
		{"PutTimer", func(w *World) { w.Tables.PutTimer(at(2, 0), fairs.Timer{At: 1}) }},
		{"Grow", func(w *World) { w.Tables.Grow(2, 3, 1) }},
		{"Places", func(w *World) { w.Tables.Places(1) }},
		{"Note", func(w *World) { w.Note(1, notes.NtLock, 1024) }},
		{"Note of no kind", func(w *World) { w.Note(1, 0, 1024) }},
		{"NoteOf", func(w *World) { w.NoteOf(1, notes.NtHand, 1024, 2, 5) }},
		{"All", func(w *World) { w.Notes.All() }},
		{"Since", func(w *World) { w.Notes.Since(1) }},
		{"the notes' Count", func(w *World) { w.Notes.Count() }},
		{"Fire", func(w *World) { w.Fire(at(2, 1)) }},
		{"Fire of no place", func(w *World) { w.Fire(at(9, 0)) }},
		{"Steps", func(w *World) { w.Steps() }},
		{"Begin", func(w *World) { spins.Begin(w) }},
		{"Spin", func(w *World) { spins.Spin() }},
		{"a token", func(w *World) { w.Tokens[3] = 9 }},
		{"the world's Spin", func(w *World) { w.Spin = 1 }},
	}
}

// checkDeed: that a deed takes so many steps.
func checkDeed(t *testing.T, w *World, d deed, steps int) {
	t.Helper()
	had := w.Steps()
	d.do(w)
	if got := w.Steps() - had; got != steps {
		t.Fatalf("%s: %d steps behind %d, want %d", d.name, got, had, steps)
	}
	if got := w.Steps(); got != had+steps {
		t.Fatalf("%s: told again %d, ahead of it %d", d.name, got, had)
	}
}

// P12.2, P12.5: each kind of access, and each call of a parker, is one step, in a new world and behind others.
func TestSteps(t *testing.T) {
	stepping := append(accesses(), calls()...)
	for _, d := range stepping {
		checkDeed(t, made(t, Config{}), d, 1)
	}
	w := made(t, Config{Spin: 1})
	for range 5 {
		for _, d := range stepping {
			checkDeed(t, w, d, 1)
		}
	}
	if got, want := w.Steps(), 5*(11+8); got != want {
		t.Errorf("Steps = %d, want %d", got, want)
	}
}

// P12.2: accesses alone, calls alone, and both, many of them.
func TestStepsTogether(t *testing.T) {
	for _, many := range [][2]int{{0, 0}, {1, 0}, {0, 1}, {1, 1}, {2, 1}, {1, 2}, {300, 0}, {0, 300}, {255, 1}, {1, 255}, {70000, 3}, {3, 70000}, {65536, 65536}} {
		w := made(t, Config{})
		for range many[0] {
			w.Cells.Add(5, 1)
		}
		for range many[1] {
			w.Permits.Late(7)
		}
		if got := w.Steps(); got != many[0]+many[1] {
			t.Errorf("%d accesses and %d calls: Steps = %d", many[0], many[1], got)
		}
	}
}

// P12.2, P12.5: nothing else is a step, in a new world and behind accesses and calls.
func TestNoSteps(t *testing.T) {
	for _, d := range quiet() {
		checkDeed(t, made(t, Config{Draws: drawsOf(5)}), d, 0)
	}
	w := made(t, Config{Spin: 2, Most: 4, Draws: drawsOf(50)})
	for range 6 {
		for _, d := range quiet() {
			checkDeed(t, w, d, 0)
		}
		for _, d := range append(accesses(), calls()...) {
			checkDeed(t, w, d, 1)
		}
	}
	if got, want := w.Steps(), 6*(11+8); got != want {
		t.Errorf("Steps = %d, want %d", got, want)
	}
}

// step: so many steps are done in a world, accesses and calls in turn.
func step(w *World, many int) {
	for i := range many {
		if i%2 == 0 {
			w.Cells.Load(3)
		} else {
			w.Permits.Unpark(2)
		}
	}
}

// checkNotes: that a world has these notes, and did so many steps.
func checkNotes(t *testing.T, w *World, want []notes.Note, steps int) {
	t.Helper()
	if got := w.Notes.All(); !slices.Equal(got, want) {
		t.Fatalf("notes %v, want %v", got, want)
	}
	if got := w.Steps(); got != steps {
		t.Fatalf("Steps = %d, want %d", got, steps)
	}
}

// P12.3: a note of each kind, at steps that rise, or stay: of one thread, and of two.
func TestNoteKinds(t *testing.T) {
	w := made(t, Config{})
	var want []notes.Note
	steps := 0
	for i, k := range allKinds() {
		for _, more := range []int{0, 0, 1, 2, 3} {
			step(w, more)
			steps += more
			a, to := api.Addr(1024+4*i), api.Addr(2000+i)
			w.Note(i, k, a)
			want = append(want, notes.Note{Step: steps, Thread: i, Kind: k, Addr: a, Other: -1, To: 0, Value: 0})
			checkNotes(t, w, want, steps)
			w.NoteOf(i, k, a, 63-i, to)
			want = append(want, notes.Note{Step: steps, Thread: i, Kind: k, Addr: a, Other: 63 - i, To: to, Value: 0})
			checkNotes(t, w, want, steps)
		}
	}
}

// P12.3: of what is no kind there is no note, and nothing else changes.
func TestNoteNoKinds(t *testing.T) {
	w := made(t, Config{Spin: 3, Draws: drawsOf(2)})
	for _, k := range noKinds() {
		before := tell(w)
		w.Note(1, k, 1024)
		w.NoteOf(1, k, 1024, 2, 1028)
		checkTells(t, "a note of no kind", w, before)
		step(w, 1)
	}
	w.Note(4, notes.NtSick, 1120)
	checkNotes(t, w, []notes.Note{{Step: 229, Thread: 4, Kind: 37, Addr: 1120, Other: -1}}, 229)
	for _, k := range noKinds() {
		w.Note(1, k, 1024)
		w.NoteOf(1, k, 1024, 2, 1028)
		checkNotes(t, w, []notes.Note{{Step: 229, Thread: 4, Kind: 37, Addr: 1120, Other: -1}}, 229)
	}
}

// P12.3: whatever threads and addresses there are, they are told as they were handed in, in their places.
func TestNoteWhatever(t *testing.T) {
	w := made(t, Config{})
	step(w, 7)
	var want []notes.Note
	for i, x := range numbers() {
		for j, a := range []api.Addr{0, 1, 64, 256, 1024, 1057, 1 << 31, greatest - 1, greatest} {
			other, to := numbers()[(i+j)%len(numbers())], greatest-a
			w.Note(x, notes.NtPark, a)
			w.NoteOf(x, notes.NtMove, a, other, to)
			want = append(want,
				notes.Note{Step: 7, Thread: x, Kind: 1, Addr: a, Other: -1},
				notes.Note{Step: 7, Thread: x, Kind: 4, Addr: a, Other: other, To: to})
		}
	}
	checkNotes(t, w, want, 7)
}

// P12.3: a note changes nothing but the notes.
func TestNoteAlone(t *testing.T) {
	w := made(t, Config{Spin: 3, Most: 9, Draws: drawsOf(6)})
	filled(w)
	want := tell(w)
	w.Note(3, notes.NtRead, 1056)
	w.NoteOf(4, notes.NtTake, 1152, 5, 1156)
	want.notes = append(want.notes,
		notes.Note{Step: 4, Thread: 3, Kind: 21, Addr: 1056, Other: -1},
		notes.Note{Step: 4, Thread: 4, Kind: 2, Addr: 1152, Other: 5, To: 1156})
	checkTells(t, "two notes", w, want)
}

// P12.3: what notes' Add refuses else is not there: a step below the last note's, and a note behind the last one that there may be.
func TestNoteRefused(t *testing.T) {
	w := made(t, Config{})
	w.Notes.Add(notes.Note{Step: 3, Thread: 8, Kind: notes.NtWait})
	want := []notes.Note{{Step: 3, Thread: 8, Kind: 29}}
	for steps := range 6 {
		w.Note(1, notes.NtLock, 1024)
		w.NoteOf(2, notes.NtHand, 1028, 3, 4)
		if steps >= 3 {
			want = append(want,
				notes.Note{Step: steps, Thread: 1, Kind: 16, Addr: 1024, Other: -1},
				notes.Note{Step: steps, Thread: 2, Kind: 18, Addr: 1028, Other: 3, To: 4})
		}
		checkNotes(t, w, want, steps)
		step(w, 1)
	}
}

// P12.3: a world whose notes are full takes no more.
func TestNotesFull(t *testing.T) {
	w := made(t, Config{})
	for range 1048575 {
		w.Note(1, notes.NtLock, 1024)
	}
	step(w, 4)
	w.NoteOf(2, notes.NtHand, 1028, 3, 4)
	for range 3 {
		w.Note(5, notes.NtFree, 1032)
		w.NoteOf(6, notes.NtFree, 1032, 7, 8)
		step(w, 1)
	}
	if got := w.Notes.Count(); got != 1048576 {
		t.Errorf("%d notes", got)
	}
	want := []notes.Note{{Step: 0, Thread: 1, Kind: 16, Addr: 1024, Other: -1}, {Step: 4, Thread: 2, Kind: 18, Addr: 1028, Other: 3, To: 4}}
	if got := w.Notes.Since(1048574); !slices.Equal(got, want) {
		t.Errorf("the last notes are %v", got)
	}
}

// checkFire: that a place's timer fires, or not, how it is then, and how many draws are left.
func checkFire(t *testing.T, w *World, p tables.Place, fires bool, timer fairs.Timer, draws int) {
	t.Helper()
	if got := w.Fire(p); got != fires {
		t.Fatalf("Fire(%v) at %d = %v", p, w.Clock.Now(), got)
	}
	if got := w.Tables.Timer(p); got != timer {
		t.Fatalf("Timer(%v) at %d = %v, want %v", p, w.Clock.Now(), got, timer)
	}
	if got := w.Clock.Left(); got != draws {
		t.Fatalf("Fire(%v) at %d: %d draws are left, want %d", p, w.Clock.Now(), got, draws)
	}
}

// P12.3: a timer fires behind its tick alone, with one draw; not twice at one tick.
func TestFire(t *testing.T) {
	w := made(t, Config{Most: 10, Draws: []uint64{9, 14, 0, 0, 10}})
	p := at(2, 1)
	checkFire(t, w, p, false, fairs.Timer{}, 5)
	w.Clock.Tick(4)
	checkFire(t, w, p, true, fairs.Timer{At: 13, Fired: 4}, 4)
	checkFire(t, w, p, false, fairs.Timer{At: 13, Fired: 4}, 4)
	w.Clock.Tick(9)
	checkFire(t, w, p, false, fairs.Timer{At: 13, Fired: 4}, 4)
	w.Clock.Tick(1)
	checkFire(t, w, p, true, fairs.Timer{At: 17, Fired: 14}, 3)
	w.Clock.Tick(5)
	// Draws of 0: it is due with the next tick, and not at the same one.
	checkFire(t, w, p, true, fairs.Timer{At: 19, Fired: 19}, 2)
	checkFire(t, w, p, false, fairs.Timer{At: 19, Fired: 19}, 2)
	w.Clock.Tick(1)
	checkFire(t, w, p, true, fairs.Timer{At: 20, Fired: 20}, 1)
	w.Clock.Tick(100)
	checkFire(t, w, p, true, fairs.Timer{At: 130, Fired: 120}, 0)
	w.Clock.Tick(100)
	checkFire(t, w, p, true, fairs.Timer{At: 220, Fired: 220}, 0)
	checkFire(t, w, p, false, fairs.Timer{At: 220, Fired: 220}, 0)
}

// P12.3: each place of a table has a timer of its own: one that fires changes nothing else but the draws.
func TestFirePlaces(t *testing.T) {
	for _, bits := range []int{2, 3, 5, 8} {
		w := made(t, Config{Spin: 2, Most: 50, Draws: drawsOf(600)})
		w.Tables.Grow(2, bits, 3)
		w.Tables.Put(at(bits, 1), []lines.Entry{{Thread: 4, Key: 9}})
		step(w, 3)
		w.Clock.Tick(4)
		for i := range 1 << bits {
			want := tell(w)
			if !w.Fire(at(bits, i)) || w.Fire(at(bits, i)) {
				t.Fatalf("Fire(%d, %d)", bits, i)
			}
			for j, one := range want.places {
				if one.place == at(bits, i) {
					want.places[j].timer = fairs.Timer{At: 4 + (uint64(i)*uint64(i)+3)%51, Fired: 4}
				}
			}
			want.draws--
			checkTells(t, "a timer that fired", w, want)
		}
	}
}

// P12.3: one that is not due changes nothing at all.
func TestFireNotDue(t *testing.T) {
	w := made(t, Config{Most: 10, Draws: drawsOf(5)})
	w.Clock.Tick(8)
	w.Tables.PutTimer(at(2, 2), fairs.Timer{At: 8, Fired: 1})
	w.Tables.PutTimer(at(2, 3), fairs.Timer{At: last, Fired: 5})
	before := tell(w)
	for _, p := range []tables.Place{at(2, 2), at(2, 3), at(2, 2)} {
		if w.Fire(p) {
			t.Errorf("Fire(%v)", p)
		}
		checkTells(t, "a timer that is not due", w, before)
	}
	w.Clock.Tick(1)
	checkFire(t, w, at(2, 2), true, fairs.Timer{At: 12, Fired: 9}, 4)
	checkFire(t, w, at(2, 3), false, fairs.Timer{At: last, Fired: 5}, 4)
}

// P12.3: at the greatest ticks the sum stays at the greatest one.
func TestFireAtTheEnd(t *testing.T) {
	w := made(t, Config{Most: last, Draws: []uint64{5, 6, last, 1, 2}})
	w.Clock.Tick(last - 5)
	checkFire(t, w, at(2, 0), true, fairs.Timer{At: last, Fired: last - 5}, 4)
	checkFire(t, w, at(2, 1), true, fairs.Timer{At: last, Fired: last - 5}, 3)
	checkFire(t, w, at(2, 2), true, fairs.Timer{At: last, Fired: last - 5}, 2)
	checkFire(t, w, at(2, 3), true, fairs.Timer{At: last - 4, Fired: last - 5}, 1)
	w.Clock.Tick(9)
	checkFire(t, w, at(2, 0), false, fairs.Timer{At: last, Fired: last - 5}, 1)
	checkFire(t, w, at(2, 3), true, fairs.Timer{At: last, Fired: last}, 0)
	checkFire(t, w, at(2, 3), false, fairs.Timer{At: last, Fired: last}, 0)
}

// noPlaces: such as a set with tables of 2 and 4 bits does not have.
func noPlaces() []tables.Place {
	var out []tables.Place
	for _, bits := range []int{math.MinInt, -1, 0, 1, 3, 5, 8, 9, 258, 1<<32 + 2, math.MaxInt} {
		out = append(out, at(bits, 0), at(bits, 1), at(bits, -1))
	}
	for _, bucket := range []int{math.MinInt, -1, 16, 17, 256, 1 << 32, math.MaxInt} {
		out = append(out, at(2, bucket), at(4, bucket))
	}
	return append(out, at(2, 4))
}

// P12.3: a place that is not there has a timer of 0, 0: it is due from tick 1 on, each time, with a draw; nothing is kept of it.
func TestFireNoPlace(t *testing.T) {
	w := made(t, Config{Most: 10, Draws: drawsOf(200)})
	w.Tables.Grow(2, 4, 0)
	before := tell(w)
	for _, p := range noPlaces() {
		if w.Fire(p) {
			t.Errorf("Fire(%v) at tick 0", p)
		}
		checkTells(t, "a place that is not there", w, before)
	}
	w.Clock.Tick(1)
	before = tell(w)
	for _, p := range noPlaces() {
		for range 2 {
			if !w.Fire(p) {
				t.Errorf("Fire(%v) at tick 1", p)
			}
			before.draws--
			checkTells(t, "a place that is not there", w, before)
		}
	}
}

// P12.3: a table that grew has timers of its own from that tick on, and the first one's stay.
func TestFireBehindGrowing(t *testing.T) {
	w := made(t, Config{Most: 10, Draws: []uint64{4, 5, 6}})
	w.Clock.Tick(2)
	w.Tables.Grow(2, 3, w.Clock.Now())
	checkFire(t, w, at(3, 7), false, fairs.Timer{At: 2, Fired: 2}, 3)
	checkFire(t, w, at(2, 3), true, fairs.Timer{At: 6, Fired: 2}, 2)
	w.Clock.Tick(1)
	checkFire(t, w, at(3, 7), true, fairs.Timer{At: 8, Fired: 3}, 1)
	checkFire(t, w, at(3, 6), true, fairs.Timer{At: 9, Fired: 3}, 0)
	checkFire(t, w, at(3, 5), true, fairs.Timer{At: 3, Fired: 3}, 0)
	checkFire(t, w, at(2, 3), false, fairs.Timer{At: 6, Fired: 2}, 0)
}

// checkSpins: that so many are left, asked to their end and on.
func checkSpins(t *testing.T, s *Spins, many int) {
	t.Helper()
	for i := range many {
		if s.Left != many-i || !s.Spin() {
			t.Fatalf("%d of %d: %d are left", i, many, s.Left)
		}
	}
	for range 3 {
		if s.Left != 0 || s.Spin() || s.Left != 0 {
			t.Fatalf("behind %d: %d are left", many, s.Left)
		}
	}
}

// P12.4: of each Spin of a world: as many are left, from the start, and begun again.
func TestSpins(t *testing.T) {
	for spin := range 17 {
		w := made(t, Config{Spin: spin})
		var s Spins
		for range 3 {
			s.Begin(w)
			checkSpins(t, &s, spin)
		}
		for asked := range 20 {
			s.Begin(w)
			for range asked {
				s.Spin()
			}
			if want := max(spin-asked, 0); s.Left != want {
				t.Errorf("%d of %d asked: %d are left", asked, spin, s.Left)
			}
		}
		s.Begin(w)
		s.Begin(w)
		checkSpins(t, &s, spin)
		checkTells(t, "spins", w, asAtFirst(spin, 0))
	}
}

// P12.4: it is the world's Spin of now that counts, whatever was left; of no world it is 0.
func TestBeginAnew(t *testing.T) {
	w := made(t, Config{Spin: 4})
	var none *World
	for _, left := range numbers() {
		s := Spins{Left: left}
		s.Begin(w)
		if s.Left != 4 {
			t.Errorf("from %d: %d are left", left, s.Left)
		}
		s = Spins{Left: left}
		s.Begin(none)
		checkSpins(t, &s, 0)
		s = Spins{Left: left}
		s.Begin(&World{})
		checkSpins(t, &s, 0)
	}
	s := Spins{}
	for _, spin := range numbers() {
		w.Spin = spin
		if s.Begin(w); s.Left != spin {
			t.Errorf("of a world of Spin %d: %d are left", spin, s.Left)
		}
	}
	s.Begin(made(t, Config{Spin: 7}))
	w.Spin = 9
	checkSpins(t, &s, 7)
}

// P12.4: one is left, if Left is above 0; else nothing changes.
func TestSpinOfWhatever(t *testing.T) {
	for _, left := range numbers() {
		s := Spins{Left: left}
		want, then := left > 0, left
		if want {
			then--
		}
		if got := s.Spin(); got != want || s.Left != then {
			t.Errorf("of %d: %v, and %d are left", left, got, s.Left)
		}
	}
	var s Spins
	checkSpins(t, &s, 0)
	s = Spins{Left: 1000}
	checkSpins(t, &s, 1000)
}

// P12.4: of no spins nothing is done, and none is left.
func TestNoSpins(t *testing.T) {
	var none *Spins
	w := made(t, Config{Spin: 3})
	for _, one := range []*World{nil, {}, w} {
		none.Begin(one)
		if none.Spin() {
			t.Error("one of no spins is left")
		}
	}
	checkTells(t, "no spins", w, asAtFirst(3, 0))
}

// P12.4, in brackets: of no world 0, false, and nothing is done.
func TestNoWorld(t *testing.T) {
	var none *World
	for range 2 {
		none.Note(1, notes.NtLock, 1024)
		none.NoteOf(1, notes.NtHand, 1024, 2, 1028)
		none.Note(1, 0, 1024)
		if got := none.Steps(); got != 0 {
			t.Errorf("Steps of no world = %d", got)
		}
		for _, p := range append(noPlaces(), at(2, 0), at(2, 3)) {
			if none.Fire(p) {
				t.Errorf("Fire(%v) of no world", p)
			}
		}
	}
}

// P12.4, in brackets: a world that no call made has nothing, and takes nothing.
func TestWorldThatNoCallMade(t *testing.T) {
	var w World
	empty := telling{}
	for i := range empty.links {
		empty.links[i] = links.Link{Next: -1, Prev: -1, Tail: -1}
	}
	for _, d := range slices.Concat(accesses(), calls(), quiet()) {
		// Its own numbers are there, and stay as they are set.
		if d.name == "a token" || d.name == "the world's Spin" {
			continue
		}
		d.do(&w)
		checkTells(t, d.name, &w, empty)
		if w.Fire(at(2, 0)) || w.Fire(at(9, 9)) {
			t.Errorf("behind %s: a timer fires", d.name)
		}
	}
	if w != (World{}) {
		t.Errorf("it has something: %v", w)
	}
}

// P12.4, in brackets: a world of cells alone, or of parkers alone, counts their steps; cells and parkers that no call made count as new ones do.
func TestStepsOfSomething(t *testing.T) {
	for i, one := range []struct {
		w    World
		want int
	}{
		{World{}, 0},
		{World{Cells: cells.New()}, 11},
		{World{Cells: &cells.Cells{}}, 11},
		{World{Permits: permits.New()}, 8},
		{World{Permits: &permits.Set{}}, 8},
		{World{Cells: cells.New(), Permits: permits.New()}, 19},
		{World{Cells: &cells.Cells{}, Permits: &permits.Set{}}, 19},
	} {
		one.w.Notes = &notes.List{}
		for _, d := range append(accesses(), calls()...) {
			d.do(&one.w)
		}
		one.w.Note(3, notes.NtRead, 1056)
		if got := one.w.Steps(); got != one.want {
			t.Errorf("world %d: Steps = %d, want %d", i, got, one.want)
		}
		checkNotes(t, &one.w, []notes.Note{{Step: one.want, Thread: 3, Kind: 21, Addr: 1056, Other: -1}}, one.want)
	}
}

// P12.3, P12.5: where a world's cells are others that made fewer accesses, notes that would fall are not there.
func TestNotesNeverFall(t *testing.T) {
	w := made(t, Config{})
	step(w, 4)
	w.Note(1, notes.NtLock, 1024)
	want := []notes.Note{{Step: 4, Thread: 1, Kind: 16, Addr: 1024, Other: -1}}
	w.Cells = cells.New()
	w.Note(1, notes.NtFree, 1024)
	checkNotes(t, w, want, 2)
	step(w, 2)
	w.Note(1, notes.NtFree, 1024)
	checkNotes(t, w, append(want, notes.Note{Step: 4, Thread: 1, Kind: 17, Addr: 1024, Other: -1}), 4)
}

// P12.4, in brackets: notes without cells and parkers are of step 0.
func TestNotesAlone(t *testing.T) {
	w := World{Notes: notes.New()}
	step(&w, 5)
	w.Note(2, notes.NtBegin, 1120)
	w.NoteOf(2, notes.NtHand, 1024, 3, 4)
	checkNotes(t, &w, []notes.Note{{Thread: 2, Kind: 33, Addr: 1120, Other: -1}, {Thread: 2, Kind: 18, Addr: 1024, Other: 3, To: 4}}, 0)
}

// P12.4, in brackets: firing without a clock is at tick 0, and without tables of a place that is not there.
func TestFireOfSomething(t *testing.T) {
	unclocked := World{Tables: tables.New(0)}
	if unclocked.Fire(at(2, 0)) || unclocked.Fire(at(3, 0)) || unclocked.Tables.Timer(at(2, 0)) != (fairs.Timer{}) {
		t.Error("a timer fires without a clock")
	}
	clock := clocks.New(drawsOf(4), 9)
	for _, w := range []World{{Clock: clock}, {Clock: clock, Tables: &tables.Set{}}} {
		had := clock.Left()
		if clock.Now() == 0 && w.Fire(at(2, 0)) {
			t.Error("a timer of no place fires at tick 0")
		}
		clock.Tick(1)
		if !w.Fire(at(2, 0)) || clock.Left() != had-1 || w.Tables.Has(2) {
			t.Errorf("a timer of no place: %d draws are left of %d", clock.Left(), had)
		}
	}
	drawless := World{Clock: &clocks.Clock{}, Tables: tables.New(7)}
	drawless.Clock.Tick(7)
	checkFire(t, &drawless, at(2, 1), false, fairs.Timer{At: 7, Fired: 7}, 0)
	drawless.Clock.Tick(2)
	checkFire(t, &drawless, at(2, 1), true, fairs.Timer{At: 9, Fired: 9}, 0)
}

// draw of numbers that are always the same, one behind the other.
type draw uint64

// below a number: the next draw.
func (d *draw) below(n int) int {
	*d = *d*6364136223846793005 + 1442695040888963407
	return int(uint64(*d) >> 33 % uint64(n))
}

// twin: of a world, what its steps, notes and timers are by the chapter's words.
type twin struct {
	steps  int
	now    uint64
	draws  []uint64
	timers [4]fairs.Timer
	notes  []notes.Note
}

// fire a bucket's timer of a twin whose draws are 6 at most.
func (w *twin) fire(bucket int) bool {
	if w.now <= w.timers[bucket].At {
		return false
	}
	drawn := uint64(0)
	if len(w.draws) > 0 {
		drawn, w.draws = w.draws[0]%7, w.draws[1:]
	}
	w.timers[bucket] = fairs.Timer{At: w.now + drawn, Fired: w.now}
	return true
}

// doBoth: something is done in a world and in its twin; whether a timer fired is told by both.
func doBoth(w *World, as *twin, d *draw) (got, want bool) {
	switch x := d.below(64); d.below(7) {
	case 0:
		accesses()[x%11].do(w)
		as.steps++
	case 1:
		calls()[x%8].do(w)
		as.steps++
	case 2:
		k := allKinds()[x%27]
		w.Note(x, k, api.Addr(x*4))
		as.notes = append(as.notes, notes.Note{Step: as.steps, Thread: x, Kind: k, Addr: api.Addr(x * 4), Other: -1})
	case 3:
		k := allKinds()[x%27]
		w.NoteOf(x, k, api.Addr(x*4), 63-x, api.Addr(x))
		as.notes = append(as.notes, notes.Note{Step: as.steps, Thread: x, Kind: k, Addr: api.Addr(x * 4), Other: 63 - x, To: api.Addr(x)})
	case 4:
		w.Note(x, noKinds()[x], 9)
	case 5:
		w.Clock.Tick(uint64(x % 4))
		as.now += uint64(x % 4)
	case 6:
		return w.Fire(at(2, x%4)), as.fire(x % 4)
	}
	return false, false
}

// P12.2, P12.3, P12.5: long runs tell what the chapter's words tell; the same run in a world of the same config tells the same; notes' steps never fall.
func TestLongRuns(t *testing.T) {
	for run := range 20 {
		c := Config{Spin: run % 17, Most: 6, Draws: drawsOf(10 * run)}
		d, again := draw(run), draw(run)
		w, same := made(t, c), made(t, c)
		as, other := &twin{draws: drawsOf(10 * run)}, &twin{draws: drawsOf(10 * run)}
		for i := range 500 {
			if got, want := doBoth(w, as, &d); got != want {
				t.Fatalf("run %d, %d: Fire = %v", run, i, got)
			}
			doBoth(same, other, &again)
			if got := w.Steps(); got != as.steps || w.Clock.Left() != len(as.draws) {
				t.Fatalf("run %d, %d: Steps = %d, want %d; %d draws, want %d", run, i, got, as.steps, w.Clock.Left(), len(as.draws))
			}
			for bucket, timer := range as.timers {
				if got := w.Tables.Timer(at(2, bucket)); got != timer {
					t.Fatalf("run %d, %d: timer %d is %v, want %v", run, i, bucket, got, timer)
				}
			}
		}
		checkNotes(t, w, as.notes, as.steps)
		if !slices.IsSortedFunc(w.Notes.All(), func(x, y notes.Note) int { return x.Step - y.Step }) {
			t.Errorf("run %d: notes' steps fall", run)
		}
		checkTells(t, "the same run", same, tell(w))
	}
}

// P12.5: the same config makes the same world, each time.
func TestSameConfig(t *testing.T) {
	for spin := range 17 {
		for _, most := range mosts() {
			c := Config{Spin: spin, Most: most, Draws: drawsOf(spin)}
			one, other := made(t, c), made(t, c)
			if !reflect.DeepEqual(one, other) {
				t.Errorf("two worlds of Spin %d, Most %d", spin, most)
			}
			filled(one)
			filled(other)
			checkTells(t, "the same done in both", other, tell(one))
		}
	}
}

// The chapter's examples.
func TestExamples(t *testing.T) {
	w := made(t, Config{Spin: 3})
	if got := w.Cells.Peek(api.CellTable); got != 2 || w.Steps() != 0 {
		t.Errorf("CellTable says %d, Steps %d", got, w.Steps())
	}
	w.Cells.Load(api.CellTable)
	if got := w.Steps(); got != 1 {
		t.Errorf("Steps = %d behind a load", got)
	}
	w.Permits.Unpark(0)
	if got := w.Steps(); got != 2 {
		t.Errorf("Steps = %d behind an unpark", got)
	}
	w.Note(5, notes.NtLock, 1024)
	checkNotes(t, w, []notes.Note{{Step: 2, Thread: 5, Kind: notes.NtLock, Addr: 1024, Other: -1, To: 0, Value: 0}}, 2)
	if w, e := New(Config{Spin: 17}); w != nil || e != api.ErrArg {
		t.Errorf("New of Spin 17: %v, %d", w, e)
	}
}
