package filters_test

import (
	"math"
	"slices"
	"testing"

	"layby/api"
	"layby/buckets"
	"layby/filters"
	"layby/lines"
	"layby/notes"
	"layby/ones"
	"layby/parks"
	"layby/wordfrees"
	"layby/wordlocks"
	"layby/worlds"
)

// telling: the address that parts of answers load.
const telling api.Addr = 2000

// asked of an answer: with which result, and behind how many steps of a world.
type asked struct {
	result ones.Result
	steps  int
}

// asks of answers.
type asks struct {
	w    *worlds.World
	told []asked
	bad  []string // what may not be asked
}

// answer whose part has so many steps, each a load of an address of its own; 0: a step that does nothing; below 0: no part. Each time that its token is asked for that is one more, and each step of its part is ten more.
type answer struct {
	steps int
	token uint64
	log   *asks
}

func (a *answer) Begin(r ones.Result) parks.Part {
	a.log.told = append(a.log.told, asked{r, a.log.w.Steps()})
	if a.steps < 0 {
		return nil
	}
	return &loads{of: a, left: a.steps}
}

func (a *answer) Token() uint64 {
	a.token++
	return a.token
}

// loads: a part.
type loads struct {
	of   *answer
	left int
	over bool
}

func (p *loads) Step(w *worlds.World) bool {
	if p.over {
		p.of.log.bad = append(p.of.log.bad, "a step of a part that is over")
	}
	if w == nil {
		p.of.log.bad = append(p.of.log.bad, "a step of a part in no world")
		return false
	}
	if p.left > 0 {
		w.Cells.Load(telling)
		p.left--
	}
	p.of.token += 10
	p.over = p.left == 0
	return p.over
}

// partOf an answer, by plain numbers: its steps.
func partOf(steps int) []saw {
	switch {
	case steps < 0:
		return nil
	case steps == 0:
		return these(nothing())
	}
	return slices.Repeat(these(loaded(telling, 0)), steps)
}

// check what was asked: once, with a result, behind so many steps of the world.
func (l *asks) check(t *testing.T, r ones.Result, steps int) {
	t.Helper()
	if !slices.Equal(l.told, []asked{{r, steps}}) {
		t.Errorf("asked %+v, want %+v behind %d steps", l.told, r, steps)
	}
	if len(l.bad) != 0 {
		t.Errorf("%v", l.bad)
	}
}

// sizes of answers' parts: none, one of a step that does nothing, one of one step, and of several.
func sizes() []int { return []int{-1, 0, 1, 2, 5} }

// each with its own token, one more than the one ahead of it.
func each(token uint64, threads ...int) []saw {
	var out []saw
	for i, who := range threads {
		out = append(out, unparked(token+uint64(i), who)...)
	}
	return out
}

// P21.1: parts of all sizes, of some that are taken, all or not, fairly or not, and of nobody: the answer is asked once, under the lock, as line 1 is over; its token is the one behind its steps, as each Unpark is made.
func TestAnswers(t *testing.T) {
	for _, size := range sizes() {
		for _, threads := range [][]int{some(3), some(3, 6), some(6, 3, 8)} {
			for _, more := range []bool{false, true} {
				for _, fair := range []bool{false, true} {
					w := world(t, 0)
					for _, who := range threads {
						queuesUp(entry(who, one, yes))(w)
					}
					in := takes(threads...)
					if more {
						queuesUp(skipped())(w)
						in = took(entered(lock3, 2), home(), one, threads, true, skipped())
					}
					if fair {
						w.Clock.Tick(6)
						in = fired(in, 9, 6)
					}
					log := &asks{w: w}
					x := filters.NewSome(me, one, chooses{}, &answer{steps: size, token: 70, log: log})
					// A part that does nothing has one step, too.
					token := 71 + 10*uint64(len(partOf(size)))
					check(t, w, x, row(in, partOf(size), each(token, threads...), ended(freed(lock3))), nil)
					log.check(t, ones.Result{Many: len(threads), More: more, Fair: fair, Thread: threads[0]}, 3)
				}
			}
		}
		for _, queue := range [][]lines.Entry{nil, {entry(8, neighbour, yes), entry(7, other, yes)}, {skipped()}, {entry(3, one, stop), entry(6, one, yes)}} {
			for _, tick := range []uint64{0, 6} {
				w := having(t, queue...)
				w.Clock.Tick(tick)
				log := &asks{w: w}
				_, more, _ := chosen(queue)
				x := filters.NewSome(me, one, chooses{}, &answer{steps: size, token: 70, log: log})
				check(t, w, x, row(none(entered(lock3, 2), more), partOf(size), ended(freed(lock3))), nil)
				log.check(t, ones.Result{More: more, Thread: -1}, 3)
			}
		}
	}
}

// P21.1: it is asked as far as it comes, and no further: not ahead of the lock, not where the lock was another table's.
func TestAskedAsFarAsItComes(t *testing.T) {
	w := having(t, two()...)
	log := &asks{w: w}
	x := filters.NewSome(me, one, chooses{}, &answer{steps: 1, log: log})
	w.Cells.Store(lock3, 1)
	for range 9 {
		if x.Step(w) || len(log.told) != 0 {
			t.Fatalf("without the lock: %+v", log.told)
		}
	}
	checkGot(t, 9, x, empty(), nil)

	w = having(t, two()...)
	log = &asks{w: w}
	x = filters.NewSome(me, one, chooses{}, &answer{steps: 1, log: log})
	p := placeOf(one, 3)
	a := lockOf(p)
	way := row(these(loaded(0, 2), cas(lock3, 0, 1), loaded(0, 3)), freed(lock3), took(entered(a, 3), p, one, some(3, 6), false), partOf(1), each(11, 3, 6), ended(freed(a)))
	check(t, w, x, way, map[int]do{3: replaces(3)})
	// The store by which the table is replaced is a step, too.
	log.check(t, ones.Result{Many: 2, Thread: 3}, 8)
}

// watching answer: it holds against the world what is to be so as it is told, and while its steps are made.
type watching struct {
	t *testing.T
	w *worlds.World
	x *filters.Some
	n int // steps of it
}

func (a *watching) Begin(r ones.Result) parks.Part {
	// The first three notes are of Parks.
	if len(a.w.Tables.Places(3)) != 0 || len(a.w.Tables.Places(6)) != 0 || a.w.Notes.Count() != 5 || a.w.Tables.Timer(home()).Fired != 2 {
		a.t.Error("told ahead of the taking, of the notes, or of the timer")
	}
	if r != (ones.Result{Many: 2, More: true, Fair: true, Thread: 3}) {
		a.t.Errorf("told %+v", r)
	}
	a.locked()
	return a
}

func (a *watching) Step(w *worlds.World) bool {
	a.locked()
	// From line 2 on it is told who was taken: an answer may ask for that.
	checkGot(a.t, a.n, a.x, ones.Result{Many: 2, More: true, Fair: true, Thread: 3}, some(3, 6))
	a.n++
	w.Cells.Add(1024, 1)
	return a.n == 3
}

// locked is the bucket, and nobody is unparked.
func (a *watching) locked() {
	if a.w.Cells.Peek(lock3)%2 != 1 || a.w.Permits.Goes(6, 0) || a.w.Permits.Goes(12, 0) || a.w.Tokens[3] != 0 {
		a.t.Error("not under the lock, or behind the first Unpark")
	}
}

func (a *watching) Token() uint64 { return uint64(10 * a.n) }

// P21.1: the answer is told behind the taking, the notes and the timer; its steps are made under the lock, ahead of the first Unpark.
func TestUnderTheLock(t *testing.T) {
	w := world(t, 0)
	var sleepers []*parks.Park
	for _, thread := range []int{3, 10, 6} {
		token := yes
		if thread == 10 {
			token = no
		}
		sleepers = append(sleepers, parked(t, w, thread, one, token))
	}
	w.Clock.Tick(2)
	a := &watching{t: t, w: w}
	a.x = filters.NewSome(me, one, chooses{}, a)
	if n := through(t, w, a.x); n != 9 || a.n != 3 || w.Cells.Peek(1024) != 3 {
		t.Errorf("%d steps, %d of its answer", n, a.n)
	}
	for i, s := range sleepers {
		over := s.Step(w)
		if o, token := s.Got(w); over != (i != 1) || over && (o != parks.PaUnparked || token != 30) {
			t.Errorf("Park %d: over %v, %d, %d", i, over, o, token)
		}
	}
}

// turning: an answer whose token somebody else turns.
type turning struct{ token uint64 }

func (a *turning) Begin(ones.Result) parks.Part { return nil }

func (a *turning) Token() uint64 { return a.token }

// P21.1: the token is the answer's as each one is unparked: not an earlier one, and not a later one.
func TestTokenTurns(t *testing.T) {
	for step := 1; step <= 6; step++ {
		a := &turning{token: 1}
		w := having(t, two()...)
		first, second := uint64(2), uint64(2)
		if step > 4 {
			first = 1
		}
		if step > 5 {
			second = 1
		}
		way := row(takes(3, 6), unparked(first, 3), unparked(second, 6), ended(freed(lock3)))
		check(t, w, filters.NewSome(me, one, chooses{}, a), way, map[int]do{step: func(*worlds.World) { a.token = 2 }})
	}
	// A pointer to a Token is an answer, too.
	k := ones.Token(5)
	w := having(t, two()...)
	way := row(takes(3, 6), unparked(5, 3), unparked(6, 6), ended(freed(lock3)))
	check(t, w, filters.NewSome(me, one, chooses{}, &k), way, map[int]do{5: func(*worlds.World) { k = 6 }})
}

// P21.1: no answer is as Token 0: what was told before that is told no more.
func TestNoAnswer(t *testing.T) {
	var noToken *ones.Token
	for name, a := range map[string]ones.Answer{"nil": nil, "Token 0": ones.Token(0), "a pointer to none": noToken} {
		t.Run(name, func(t *testing.T) {
			w := having(t, two()...)
			tells(44)(w)
			check(t, w, filters.NewSome(me, one, chooses{}, a), whole(0, 3, 6), nil)
			check(t, world(t, 0), filters.NewSome(me, one, chooses{}, a), nobody(false), nil)
			check(t, having(t, two()...), filters.NewSome(me, one, nil, a), nobody(true), nil)
		})
	}
}

// P21.1: tokens of answers are told as they are.
func TestTokensTold(t *testing.T) {
	for _, n := range []uint64{0, 1, 2, 9, 255, 1 << 31, 1<<32 + 1, 1 << 63, math.MaxUint64 - 1, math.MaxUint64} {
		w := having(t, two()...)
		tells(n + 1)(w)
		check(t, w, filters.NewSome(me, one, chooses{}, ones.Token(n)), whole(n, 3, 6), nil)
	}
}

// operating: an answer whose part is an operation.
type operating struct {
	part  parks.Part
	token uint64
}

func (a operating) Begin(ones.Result) parks.Part { return a.part }

func (a operating) Token() uint64 { return a.token }

// by an answer: a Some at one.
func by(a ones.Answer) *filters.Some { return filters.NewSome(me, one, chooses{}, a) }

// P21.1: what an answer's Begin answers may be any operation: it takes its steps; one that sleeps for another lock keeps this one.
func TestOperationsAsParts(t *testing.T) {
	rest := row(unparked(4, 3, 6), ended(freed(lock3)))
	check(t, having(t, two()...), by(operating{buckets.NewEnter(me, other), 4}), row(takes(3, 6), entered(lock1, 2), rest), nil)

	w := having(t, two()...)
	w.Cells.Store(2000, 1)
	check(t, w, by(operating{wordfrees.NewFree(2000), 4}), row(takes(3, 6), these(add(2000, 1, 0)), rest), nil)

	w = having(t, two()...)
	w.Cells.Store(2000, 1)
	x := by(operating{wordlocks.NewLock(me, 2000), 4})
	for range 20 {
		if x.Step(w) {
			t.Fatal("it has a lock that somebody has")
		}
	}
	if !w.Permits.Asleep(myWord) || w.Cells.Peek(lock3) != 1 || w.Tokens[3] != 0 {
		t.Error("its answer does not sleep")
	}
	checkGot(t, 20, x, ones.Result{Many: 2, Thread: 3}, some(3, 6))

	// Another Some, of another key.
	w = having(t, entry(3, one, yes), entry(8, other, yes), entry(6, one, yes), entry(9, other, no))
	under := filters.NewSome(me, other, chooses{}, ones.Token(70))
	x = by(operating{under, 4})
	if n := through(t, w, x); n != 11 || w.Tokens[3] != 4 || w.Tokens[6] != 4 || w.Tokens[8] != 70 || w.Tokens[9] != 0 {
		t.Errorf("%d steps; tokens %v", n, w.Tokens)
	}
	checkGot(t, 11, x, ones.Result{Many: 2, Thread: 3}, some(3, 6))
	checkGot(t, 11, under, ones.Result{Many: 1, More: true, Thread: 8}, some(8))
	want := []notes.Note{
		{Step: 3, Thread: me, Kind: notes.NtPick, Addr: one, Other: 3}, {Step: 3, Thread: me, Kind: notes.NtPick, Addr: one, Other: 6},
		{Step: 6, Thread: me, Kind: notes.NtPick, Addr: other, Other: 8},
	}
	if got := w.Notes.All(); !slices.Equal(got, want) || w.Cells.Peek(lock1) != 0 || w.Cells.Peek(lock3) != 0 {
		t.Errorf("notes %+v", got)
	}
}

// P21.1: answers are apart: two Somes by one answer each ask it; of two answers each one is told its own.
func TestAnswersAreApart(t *testing.T) {
	w := having(t, entry(3, one, yes), entry(8, one, no), entry(7, other, yes), entry(9, one, yes))
	log := &asks{w: w}
	a := &answer{steps: 1, token: 20, log: log}
	x, y := by(a), filters.NewSome(me, other, chooses{}, a)
	z := filters.NewSome(4, one, byTokens{no, stop}, &answer{steps: -1, token: 90, log: log})
	for _, next := range []*filters.Some{x, y, z} {
		through(t, w, next)
	}
	want := []asked{{ones.Result{Many: 2, More: true, Thread: 3}, 3}, {ones.Result{Many: 1, Thread: 7}, 10}, {ones.Result{Many: 1, Thread: 8}, 16}}
	if !slices.Equal(log.told, want) || w.Tokens[3] != 31 || w.Tokens[9] != 32 || w.Tokens[7] != 43 || w.Tokens[8] != 91 {
		t.Errorf("asked %+v; tokens %d, %d, %d, %d", log.told, w.Tokens[3], w.Tokens[9], w.Tokens[7], w.Tokens[8])
	}
}
