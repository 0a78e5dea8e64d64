package ones_test

import (
	"math"
	"slices"
	"testing"

	"layby/api"
	"layby/buckets"
	"layby/ones"
	"layby/parks"
	"layby/wordfrees"
	"layby/wordlocks"
	"layby/worlds"
)

// telling: the address that parts of answers load.
const telling api.Addr = 2000

// asked of an answer: with which result, and behind how many steps of a world.
type asked struct {
	result ones.Result
	steps  int
}

// asks of answers.
type asks struct {
	w    *worlds.World
	told []asked
	bad  []string // what may not be asked
}

// answer whose part has so many steps, each a load of an address of its own; 0: a step that does nothing; below 0: no part.
type answer struct {
	steps int
	token uint64
	log   *asks
}

func (a *answer) Begin(r ones.Result) parks.Part {
	a.log.told = append(a.log.told, asked{r, a.log.w.Steps()})
	if a.steps < 0 {
		return nil
	}
	return &loads{of: a, left: a.steps}
}

func (a *answer) Token() uint64 { return a.token }

// loads: a part. Each step of it makes the answer's token one more.
type loads struct {
	of   *answer
	left int
	over bool
}

func (p *loads) Step(w *worlds.World) bool {
	if p.over {
		p.of.log.bad = append(p.of.log.bad, "a step of a part that is over")
	}
	if w == nil {
		p.of.log.bad = append(p.of.log.bad, "a step of a part in no world")
		return false
	}
	if p.left > 0 {
		w.Cells.Load(telling)
		p.left--
	}
	p.of.token++
	p.over = p.left == 0
	return p.over
}

// partOf an answer, by plain numbers: its steps.
func partOf(steps int) []saw {
	switch {
	case steps < 0:
		return nil
	case steps == 0:
		return these(nothing())
	}
	return slices.Repeat(these(loaded(telling, 0)), steps)
}

// check what was asked: once, with a result, behind so many steps of the world.
func (l *asks) check(t *testing.T, r ones.Result, steps int) {
	t.Helper()
	if !slices.Equal(l.told, []asked{{r, steps}}) {
		t.Errorf("asked %+v, want %+v behind %d steps", l.told, r, steps)
	}
	if len(l.bad) != 0 {
		t.Errorf("%v", l.bad)
	}
}

// sizes of answers' parts: none, one of a step that does nothing, one of one step, and of several.
func sizes() []int { return []int{-1, 0, 1, 2, 5} }

// P19.1: parts of all sizes, of one that is taken, alone or not, fairly or not, and of nobody: the answer is asked once, under the lock, as line 1 is over; its token is the one behind its steps.
func TestAnswers(t *testing.T) {
	second := entry(8, one, 1)
	for _, size := range sizes() {
		for _, more := range []bool{false, true} {
			for _, fair := range []bool{false, true} {
				w := having(t, alone()...)
				log := &asks{w: w}
				in := takes()
				if more {
					queuesUp(second)(w)
					in = took(entered(lock3, 2), bucket(2, 3), one, 3, true, second)
				}
				if fair {
					w.Clock.Tick(6)
					in = fired(in, 9, 6)
				}
				x := ones.NewOne(me, one, &answer{steps: size, token: 70, log: log})
				// Each step of a part is a token more; a part that does nothing has one step, too.
				token := 70 + uint64(len(partOf(size)))
				check(t, w, x, row(in, partOf(size), unparked(3, token), ended(freed(lock3))), nil)
				log.check(t, ones.Result{Many: 1, More: more, Fair: fair, Thread: 3}, 3)
			}
		}
		for _, tick := range []uint64{0, 6} {
			w := having(t, entry(8, neighbour, 1), entry(7, other, 1))
			w.Clock.Tick(tick)
			log := &asks{w: w}
			x := ones.NewOne(me, one, &answer{steps: size, token: 70, log: log})
			check(t, w, x, row(none(entered(lock3, 2)), partOf(size), ended(freed(lock3))), nil)
			log.check(t, empty(), 3)
		}
	}
}

// P19.1: it is asked as far as it comes, and no further: not ahead of the lock, not where the lock was another table's.
func TestAskedAsFarAsItComes(t *testing.T) {
	w := having(t, alone()...)
	log := &asks{w: w}
	x := ones.NewOne(me, one, &answer{steps: 1, log: log})
	w.Cells.Store(lock3, 1)
	for range 9 {
		if x.Step(w) || len(log.told) != 0 || x.Got() != empty() {
			t.Fatalf("without the lock: %+v, got %+v", log.told, x.Got())
		}
	}

	w = having(t, alone()...)
	log = &asks{w: w}
	x = ones.NewOne(me, one, &answer{steps: 1, log: log})
	p := placeOf(one, 3)
	a := lockOf(p)
	way := row(these(loaded(0, 2), cas(lock3, 0, 1), loaded(0, 3)), freed(lock3), took(entered(a, 3), p, one, 3, false), partOf(1), unparked(3, 1), ended(freed(a)))
	check(t, w, x, way, map[int]do{3: replaces(3)})
	// The store by which the table is replaced is a step, too.
	log.check(t, ones.Result{Many: 1, Thread: 3}, 8)
}

// watching answer: it holds against the world what is to be so as it is told, and while its steps are made.
type watching struct {
	t *testing.T
	w *worlds.World
	n int // steps of it
}

func (a *watching) Begin(r ones.Result) parks.Part {
	// The first note is of the Park.
	if len(a.w.Tables.Places(3)) != 0 || a.w.Notes.Count() != 2 || a.w.Tables.Timer(bucket(2, 3)).Fired != 2 {
		a.t.Error("told ahead of the taking, of the note, or of the timer")
	}
	a.locked()
	return a
}

func (a *watching) Step(w *worlds.World) bool {
	a.locked()
	a.n++
	w.Cells.Add(1024, 1)
	return a.n == 3
}

// locked is the bucket, and nobody is unparked.
func (a *watching) locked() {
	if a.w.Cells.Peek(lock3)%2 != 1 || a.w.Permits.Goes(6, 0) || a.w.Tokens[3] != 0 {
		a.t.Error("not under the lock, or behind the Unpark")
	}
}

func (a *watching) Token() uint64 { return uint64(10 * a.n) }

// P19.1: the answer is told behind the taking, the note and the timer; its steps are made under the lock, ahead of the Unpark.
func TestUnderTheLock(t *testing.T) {
	w := world(t, 0)
	s := sleeper(t, w, api.Until{}, 7)
	w.Clock.Tick(2)
	a := &watching{t: t, w: w}
	x := ones.NewOne(me, one, a)
	if n := through(t, w, x); n != 8 || a.n != 3 || w.Cells.Peek(1024) != 3 {
		t.Errorf("%d steps, %d of its answer", n, a.n)
	}
	s.Step(w)
	if o, token := s.Got(w); o != parks.PaUnparked || token != 30 {
		t.Errorf("its Park: %d, %d", o, token)
	}
}

// turning: an answer whose token somebody else turns.
type turning struct{ token uint64 }

func (a *turning) Begin(ones.Result) parks.Part { return nil }

func (a *turning) Token() uint64 { return a.token }

// P19.1: the token is the answer's as line 3 is made: not an earlier one, and not a later one.
func TestTokenTurns(t *testing.T) {
	for step := 1; step <= 5; step++ {
		a := &turning{token: 1}
		w := having(t, alone()...)
		want := uint64(2)
		if step == 5 {
			want = 1
		}
		check(t, w, ones.NewOne(me, one, a), whole(want), map[int]do{step: func(*worlds.World) { a.token = 2 }})
	}
	// A pointer to a Token is an answer, too.
	k := ones.Token(5)
	w := having(t, alone()...)
	check(t, w, ones.NewOne(me, one, &k), whole(6), map[int]do{4: func(*worlds.World) { k = 6 }})
}

// P19.1: no answer is as Token 0: what was told before that is told no more.
func TestNoAnswer(t *testing.T) {
	var noToken *ones.Token
	for name, a := range map[string]ones.Answer{"nil": nil, "Token 0": ones.Token(0), "a pointer to none": noToken} {
		t.Run(name, func(t *testing.T) {
			w := having(t, alone()...)
			w.Tokens[3] = 44
			check(t, w, ones.NewOne(me, one, a), whole(0), nil)
			check(t, world(t, 0), ones.NewOne(me, one, a), nobody(), nil)
		})
	}
}

// P19.2: Token, as an answer, has no steps, and is its number.
func TestToken(t *testing.T) {
	for _, n := range []uint64{0, 1, 2, 9, 255, 1 << 31, 1<<32 + 1, 1 << 63, math.MaxUint64 - 1, math.MaxUint64} {
		k := ones.Token(n)
		for _, r := range []ones.Result{{}, empty(), {Many: 1, Thread: 3}, {Many: 5, Moved: 6, More: true, Fair: true, Thread: 63}} {
			if k.Begin(r) != nil || k.Token() != n {
				t.Errorf("%d: a part, or %d", n, k.Token())
			}
		}
		w := having(t, alone()...)
		check(t, w, ones.NewOne(me, one, k), whole(n), nil)
	}
	if ones.Token(api.TokHand).Token() != 1 || ones.Token(api.TokNormal).Token() != 0 {
		t.Error("api's tokens")
	}
}

// operating: an answer whose part is an operation.
type operating struct {
	part  parks.Part
	token uint64
}

func (a operating) Begin(ones.Result) parks.Part { return a.part }

func (a operating) Token() uint64 { return a.token }

// P19.1: what an answer's Begin answers may be any operation: it takes its steps; one that sleeps for another lock keeps this one.
func TestOperationsAsParts(t *testing.T) {
	w := having(t, alone()...)
	check(t, w, ones.NewOne(me, one, operating{buckets.NewEnter(me, other), 4}), row(takes(), entered(lock1, 2), unparked(3, 4), ended(freed(lock3))), nil)

	w = having(t, alone()...)
	w.Cells.Store(2000, 1)
	check(t, w, ones.NewOne(me, one, operating{wordfrees.NewFree(2000), 4}), row(takes(), these(add(2000, 1, 0)), unparked(3, 4), ended(freed(lock3))), nil)

	w = having(t, alone()...)
	w.Cells.Store(2000, 1)
	x := ones.NewOne(me, one, operating{wordlocks.NewLock(me, 2000), 4})
	for range 20 {
		if x.Step(w) {
			t.Fatal("it has a lock that somebody has")
		}
	}
	if !w.Permits.Asleep(myWord) || w.Cells.Peek(lock3) != 1 || w.Tokens[3] != 0 || x.Got() != (ones.Result{Many: 1, Thread: 3}) {
		t.Errorf("its answer does not sleep; got %+v", x.Got())
	}

	// Another One, of another key.
	w = having(t, entry(3, one, 1), entry(8, other, 2))
	under := ones.NewOne(me, other, ones.Token(70))
	in := took(entered(lock1, 2), bucket(2, 1), other, 8, false)
	in[2].told = nil
	check(t, w, ones.NewOne(me, one, operating{under, 4}), row(takes(), in, unparked(8, 70), freed(lock1), unparked(3, 4), ended(freed(lock3))), nil)
	if under.Got() != (ones.Result{Many: 1, Thread: 8}) {
		t.Errorf("under it %+v is got", under.Got())
	}
}

// P19.1: answers are apart: two Ones by one answer each ask it; of two answers each one is told its own.
func TestAnswersAreApart(t *testing.T) {
	w := having(t, entry(3, one, 1), entry(8, one, 2), entry(7, other, 3))
	log := &asks{w: w}
	a := &answer{steps: 1, token: 20, log: log}
	x, y, z := ones.NewOne(me, one, a), ones.NewOne(me, other, a), ones.NewOne(4, one, &answer{steps: -1, token: 90, log: log})
	for _, next := range []*ones.One{x, y, z} {
		through(t, w, next)
	}
	want := []asked{{ones.Result{Many: 1, More: true, Thread: 3}, 3}, {ones.Result{Many: 1, Thread: 7}, 9}, {ones.Result{Many: 1, Thread: 8}, 15}}
	if !slices.Equal(log.told, want) || w.Tokens[3] != 21 || w.Tokens[7] != 22 || w.Tokens[8] != 90 {
		t.Errorf("asked %+v; tokens %d, %d, %d", log.told, w.Tokens[3], w.Tokens[7], w.Tokens[8])
	}
}
