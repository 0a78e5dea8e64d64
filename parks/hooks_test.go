package parks_test

import (
	"math"
	"slices"
	"strconv"
	"strings"
	"testing"

	"layby/api"
	"layby/lines"
	"layby/parks"
	"layby/tables"
	"layby/worlds"
)

// Addresses that the hooks' parts load.
const (
	validating api.Addr = 2000
	before     api.Addr = 2001
	wasLate    api.Addr = 2002
)

// asks: what was asked of hooks, and behind how many steps of a world.
type asks struct {
	w    *worlds.World
	told []string
	bad  []string // what may not be asked
}

func (l *asks) ask(words ...string) {
	l.told = append(l.told, strings.Join(words, " ")+" @"+strconv.Itoa(l.w.Steps()))
}

// hooks whose parts have so many steps, each a load of an address of their own; 0: a step that does nothing; below 0: no part.
type hooks struct {
	validate, before, late int
	not                    bool // it is not Ok
	log                    *asks
}

func (h *hooks) Validate() parks.Look {
	h.log.ask("validate")
	if h.validate < 0 {
		return nil
	}
	return &loads{log: h.log, at: validating, left: h.validate, ok: !h.not}
}

func (h *hooks) Before() parks.Part {
	h.log.ask("before")
	if h.before < 0 {
		return nil
	}
	return &loads{log: h.log, at: before, left: h.before}
}

func (h *hooks) Late(key api.Addr, last bool) parks.Part {
	h.log.ask("late", strconv.Itoa(int(key)), strconv.FormatBool(last))
	if h.late < 0 {
		return nil
	}
	return &loads{log: h.log, at: wasLate, left: h.late}
}

// loads: a part.
type loads struct {
	log  *asks
	at   api.Addr
	left int
	ok   bool
	over bool
}

func (p *loads) Step(w *worlds.World) bool {
	if p.over {
		p.log.bad = append(p.log.bad, "a step of a part that is over")
	}
	if w == nil {
		p.log.bad = append(p.log.bad, "a step of a part in no world")
		return false
	}
	if p.left > 0 {
		w.Cells.Load(p.at)
		p.left--
	}
	p.over = p.left == 0
	return p.over
}

func (p *loads) Ok() bool {
	if !p.over {
		p.log.bad = append(p.log.bad, "Ok of a part that is not over")
	}
	return p.ok
}

// partOf hooks, by plain numbers: its steps.
func partOf(at api.Addr, steps int) []saw {
	switch {
	case steps < 0:
		return nil
	case steps == 0:
		return these(nothing())
	}
	return slices.Repeat(these(loaded(at, 0)), steps)
}

// stepsOf a part in the world.
func stepsOf(part int) int { return max(part, 0) }

// P18.1: hooks whose parts are none, one of a step that does nothing, one of one step, and of several; each is asked for once, when its line comes.
func TestHooks(t *testing.T) {
	sizes := []int{-1, 0, 1, 3}
	for _, v := range sizes {
		for _, b := range sizes {
			for _, l := range sizes {
				w := world(t, 0)
				log := &asks{w: w}
				x := parks.NewPark(me, one, mine, at(0), &hooks{validate: v, before: b, late: l, log: log})
				in := row(stored(0, one), queued(bucket(2, 3), one), freed(lock3), partOf(before, b))
				way := row(entered(lock3, 2), partOf(validating, v), parked(in), tooLate(),
					owned(lock3, one, 2), gone(bucket(2, 3), one), partOf(wasLate, l), ended(freed(lock3)))
				if len(log.told) != 0 {
					t.Errorf("asked ahead of its first step: %v", log.told)
				}
				check(t, w, x, way, nil, parks.PaLate, 0)
				v, b := stepsOf(v), stepsOf(b)
				log.check(t, "validate @3", "before @"+strconv.Itoa(6+v), "late 1152 true @"+strconv.Itoa(13+v+b))
			}
		}
	}
}

// check what was asked.
func (l *asks) check(t *testing.T, want ...string) {
	t.Helper()
	if !slices.Equal(l.told, want) {
		t.Errorf("asked %v, want %v", l.told, want)
	}
	if len(l.bad) != 0 {
		t.Errorf("%v", l.bad)
	}
}

// P18.1: a Validate that is not Ok: the lock goes, and nothing else is done, nor asked.
func TestNotOk(t *testing.T) {
	for _, v := range []int{0, 1, 2, 5} {
		for _, until := range []api.Until{never(), at(0)} {
			w := world(t, 0)
			log := &asks{w: w}
			x := parks.NewPark(me, one, mine, until, &hooks{validate: v, before: 1, late: 1, not: true, log: log})
			check(t, w, x, row(entered(lock3, 2), partOf(validating, v), ended(freed(lock3))), nil, parks.PaInvalid, 0)
			log.check(t, "validate @3")
			if w.Cells.Peek(myCell) != 0 || w.Cells.Peek(lock3) != 0 || w.Notes.Count() != 0 || len(w.Tables.Places(me)) != 0 {
				t.Errorf("it left words %v, %d notes", w.Cells.Words(), w.Notes.Count())
			}
		}
	}
}

// P18.1: hooks are asked as far as it comes, and no further: not ahead of the lock, nor behind an unpark.
func TestAskedAsFarAsItComes(t *testing.T) {
	made := func() (*worlds.World, *asks, *parks.Park) {
		w := world(t, 0)
		log := &asks{w: w}
		return w, log, parks.NewPark(me, one, mine, at(3), &hooks{validate: 1, before: 1, late: 1, log: log})
	}
	in := row(stored(0, one), queued(bucket(2, 3), one), freed(lock3), parked(partOf(before, 1)))

	w, log, x := made()
	run(t, w, x, these(loaded(0, 2), cas(lock3, 1, 1)), map[int]do{2: stores(lock3, 1)})
	for range 9 {
		x.Step(w)
	}
	log.check(t)

	w, log, x = made()
	run(t, w, x, row(entered(lock3, 2), partOf(validating, 1), stored(0, one), queued(bucket(2, 3), one), these(add(lock3, 41, 40), loaded(lock3, 40))), map[int]do{7: waitsFor(9, lock3)})
	log.check(t, "validate @3")

	w, log, x = made()
	check(t, w, x, row(entered(lock3, 2), partOf(validating, 1), in, wokenInTime()), map[int]do{9: wakes(2)}, parks.PaUnparked, 2)
	log.check(t, "validate @3", "before @7")

	w, log, x = made()
	way := row(entered(lock3, 2), partOf(validating, 1), in, tooLate(), owned(lock3, one, 2), asked(), ended(freed(lock3)))
	check(t, w, x, way, map[int]do{1: ticks(3), 12: wakes(2)}, parks.PaUnparked, 2)
	log.check(t, "validate @3", "before @7")

	// The table is replaced as it enters: only then the lock is the one that counts.
	w, log, x = made()
	a := lockOf(placeOf(one, 3))
	run(t, w, x, row(these(loaded(0, 2), cas(lock3, 0, 1), loaded(0, 3)), freed(lock3), entered(a, 3)), map[int]do{3: replaces(3)})
	log.check(t, "validate @8")
}

// P18.1: what Late is told: the key that line 9 found, and whether no other entry of that key is in the queue of its place.
func TestWhatLateIsTold(t *testing.T) {
	for name, c := range map[string]struct {
		ahead map[int]do // line 9 is steps 8 to 12, line 10 is step 13
		key   api.Addr
		last  bool
	}{
		"alone":                              {nil, one, true},
		"one behind it":                      {map[int]do{9: queuesUp(entry(9, one, 1))}, one, false},
		"one ahead of it":                    {map[int]do{4: queuesUp(entry(9, one, 1))}, one, false},
		"both":                               {map[int]do{4: queuesUp(entry(9, one, 1)), 9: queuesUp(entry(8, one, 1))}, one, false},
		"of another key, in its bucket":      {map[int]do{4: queuesUp(entry(9, neighbour, 1)), 9: queuesUp(entry(8, neighbour, 1))}, one, true},
		"of its key, in another bucket":      {map[int]do{9: func(w *worlds.World) { w.Tables.Put(bucket(2, 1), []lines.Entry{entry(9, one, 1)}) }}, one, true},
		"it was out, alone":                  {map[int]do{9: takesOut(me)}, one, true},
		"it was out, with another one":       {map[int]do{9: both(takesOut(me), queuesUp(entry(9, one, 1)))}, one, false},
		"it was out, with one of the bucket": {map[int]do{9: both(takesOut(me), queuesUp(entry(9, neighbour, 1)))}, one, true},
		"moved, alone":                       {map[int]do{8: moves(other)}, other, true},
		"moved, and others stay":             {map[int]do{8: both(queuesUp(entry(9, one, 1)), moves(other))}, other, true},
		"moved, and others were moved":       {map[int]do{8: both(moves(other), queuesUp(entry(9, other, 1)))}, other, false},
		"moved in its bucket":                {map[int]do{8: moves(neighbour)}, neighbour, true},
		"moved in its bucket, others stay":   {map[int]do{8: both(moves(neighbour), queuesUp(entry(9, one, 1)))}, neighbour, true},
		"moved in its bucket, others too":    {map[int]do{8: both(moves(neighbour), queuesUp(entry(9, neighbour, 1)))}, neighbour, false},
		"moved behind line 9":                {map[int]do{13: moves(other)}, one, true},
		"an entry more of its own":           {map[int]do{9: queuesUp(entry(me, one, 1))}, one, false},
		"one more, of another key":           {map[int]do{9: queuesUp(entry(me, neighbour, 1))}, one, true},
		"its entry is of another key":        {map[int]do{13: both(takesOut(me), queuesUp(entry(me, neighbour, 1)))}, one, true},
		"and others of its own are there":    {map[int]do{13: both(takesOut(me), queuesUp(entry(me, neighbour, 1), entry(9, one, 1)))}, one, false},
		"all others go ahead of line 10":     {map[int]do{4: queuesUp(entry(9, one, 1)), 13: takesOut(9)}, one, true},
		"others come ahead of line 10":       {map[int]do{13: queuesUp(entry(9, one, 1))}, one, false},
		"others come behind line 10":         {map[int]do{14: queuesUp(entry(9, one, 1))}, one, true},
		"the table is greater":               {map[int]do{8: both(queuesUp(entry(9, one, 1), entry(8, other, 1)), replaces(4))}, one, false},
		"the table parts it from others":     {map[int]do{8: both(queuesUp(entry(9, neighbour, 1)), replaces(4))}, one, true},
		"its cell is of another key":         {map[int]do{8: both(stores(myCell, uint64(other)), queuesUp(entry(9, other, 1)))}, other, false},
	} {
		t.Run(name, func(t *testing.T) {
			w := world(t, 0)
			log := &asks{w: w}
			x := parks.NewPark(me, one, mine, at(0), &hooks{validate: -1, before: -1, late: 2, log: log})
			loads := 0
			for i := 1; i < 60 && !x.Over(); i++ {
				if act := c.ahead[i]; act != nil {
					act(w)
				}
				x.Step(w)
				if a := w.Cells.Last(); a.Addr == wasLate {
					loads++
				}
			}
			if o, _ := x.Got(w); o != parks.PaLate || loads != 2 {
				t.Errorf("it ended %d, behind %d steps of Late's part", o, loads)
			}
			want := "late " + strconv.Itoa(int(c.key)) + " " + strconv.FormatBool(c.last) + " @"
			if n := len(log.told); n != 3 || !strings.HasPrefix(log.told[2], want) {
				t.Errorf("asked %v, want %s", log.told, want)
			}
		})
	}
}

// plainOnes: hooks that are as none.
func plainOnes() map[string]parks.Hooks {
	var noPlain *parks.Plain
	var noCheck *parks.Check
	return map[string]parks.Hooks{"nil": nil, "Plain": parks.Plain{}, "a pointer to one": &parks.Plain{}, "a pointer to no Plain": noPlain, "a pointer to no Check": noCheck}
}

// P18.1, P18.3: without hooks it is as with Plain's: they take no step.
func TestPlain(t *testing.T) {
	for name, h := range plainOnes() {
		t.Run(name, func(t *testing.T) {
			check(t, world(t, 0), parks.NewPark(me, one, mine, at(0), h), row(begun(), tooLate(), late()), nil, parks.PaLate, 0)
			check(t, world(t, 0), parks.NewPark(me, one, mine, never(), h), row(begun(), sleeps(2), woken()), map[int]do{9: wakes(8)}, parks.PaUnparked, 8)
		})
	}
	p := parks.Plain{}
	if p.Validate() != nil || p.Before() != nil || p.Late(0, false) != nil || p.Late(one, true) != nil || p.Late(math.MaxUint32, true) != nil {
		t.Error("Plain's hooks are something")
	}
}

// some numbers of bits: all of three, and great ones.
func bitsets() []uint64 {
	return []uint64{0, 1, 2, 3, 4, 5, 6, 7, 8, 255, 256, 1 << 40, 1 << 63, 1<<63 + 1, math.MaxUint64 - 1, math.MaxUint64}
}

// isByte: has an address a byte?
func isByte(a api.Addr) bool {
	return a >= 1024 && a < 1056 && a%4 == 0 || a >= 1120 && a < 1152 && a%4 == 0
}

// brought to an address.
func brought(a api.Addr, v uint64) uint64 {
	if isByte(a) {
		return v % 256
	}
	return v
}

// okBits: are all bits of all in what stands, and one of any, if any has one? Bit by bit.
func okBits(stands, all, any uint64) bool {
	one := any == 0
	for bit := range 64 {
		is := stands>>bit%2 == 1
		if all>>bit%2 == 1 && !is {
			return false
		}
		one = one || any>>bit%2 == 1 && is
	}
	return one
}

// cleared of bits, bit by bit.
func cleared(stands, clear uint64) uint64 {
	for bit := range 64 {
		if clear>>bit%2 == 1 && stands>>bit%2 == 1 {
			stands -= 1 << bit
		}
	}
	return stands
}

// P18.3: Check's Validate, for each mixture of All and Any against what stands: a load, and whether it found the bits.
func TestCheckValidate(t *testing.T) {
	for _, a := range []api.Addr{one, 1024, 1052, 1120, 1056, 0, math.MaxUint32} {
		w := world(t, 0)
		for _, v := range bitsets() {
			stand := brought(a, v)
			for _, all := range bitsets() {
				for _, some := range bitsets() {
					w.Cells.Store(a, v)
					x := parks.Check{Addr: a, All: all, Any: some, Clear: v ^ all}.Validate()
					if x.Ok() || x.Step(nil) || x.Ok() {
						t.Fatal("Ok ahead of its step, or over in no world")
					}
					want, steps := okBits(stand, all, some), w.Steps()
					if !x.Step(w) || w.Steps() != steps+1 || w.Cells.Last() != loaded(a, stand).access {
						t.Fatalf("address %d: its step is %+v", a, w.Cells.Last())
					}
					if x.Ok() != want {
						t.Fatalf("%d stands at %d, All %d, Any %d: %v", stand, a, all, some, x.Ok())
					}
					// Behind its step nothing changes it.
					w.Cells.Store(a, ^v)
					if !x.Step(w) || !x.Step(nil) || w.Steps() != steps+2 || x.Ok() != want {
						t.Fatal("over, it does something")
					}
				}
			}
		}
	}
}

// P18.3: Check's Late, for each mixture of Clear and what stands: an And, if it is the last one, and there is something to clear; else nothing.
func TestCheckLate(t *testing.T) {
	for _, a := range []api.Addr{one, 1024, 1148, 1057, 0, math.MaxUint32} {
		w := world(t, 0)
		for i, v := range bitsets() {
			for _, clear := range bitsets() {
				c := parks.Check{Addr: a, All: v, Any: 1, Clear: clear}
				for _, key := range []api.Addr{0, a, one, other} {
					if c.Late(key, false) != nil {
						t.Fatal("something is to be done, and it is not the last one")
					}
					x := c.Late(key, true)
					if (x == nil) != (clear == 0) {
						t.Fatalf("Clear %d: %v", clear, x)
					}
					if x == nil {
						continue
					}
					w.Cells.Store(a, v)
					steps := w.Steps()
					if x.Step(nil) || w.Steps() != steps {
						t.Fatal("over in no world")
					}
					want := and(a, brought(a, v), cleared(brought(a, v), clear)).access
					if !x.Step(w) || w.Steps() != steps+1 || w.Cells.Last() != want {
						t.Fatalf("%d: its step is %+v, want %+v", i, w.Cells.Last(), want)
					}
					if w.Cells.Store(a, v); !x.Step(w) || !x.Step(nil) || w.Steps() != steps+2 || w.Cells.Peek(a) != brought(a, v) {
						t.Fatal("over, it does something")
					}
				}
			}
		}
		if (parks.Check{Addr: a, Clear: 1}).Before() != nil {
			t.Error("it has something ahead of the sleep")
		}
	}
}

// P18.3: what a Check answers is made anew each time: one minds no other one.
func TestChecksAreApart(t *testing.T) {
	w := world(t, 0, stands(one, 3))
	c := parks.Check{Addr: one, All: 3, Clear: 1}
	x, y := c.Validate(), c.Validate()
	p, q := c.Late(0, true), c.Late(0, true)
	if !x.Step(w) || y.Step(nil) || y.Ok() || !x.Ok() {
		t.Error("a look is over by another one")
	}
	if !p.Step(w) || q.Step(nil) || w.Cells.Peek(one) != 2 {
		t.Error("a part is over by another one")
	}
	if !y.Step(w) || y.Ok() || !x.Ok() {
		t.Error("a look says what another one found")
	}
}

// P18.1, P18.3: a Park with a Check, line by line: it may park, or not; late, it clears bits, if it is the last one.
func TestParkWithCheck(t *testing.T) {
	const a api.Addr = 1028
	in := func(found uint64) []saw {
		return row(entered(lock3, 2), these(loaded(a, found)), stored(0, one), queued(bucket(2, 3), one), parked(freed(lock3)))
	}
	out := func(part ...saw) []saw {
		return row(owned(lock3, one, 2), gone(bucket(2, 3), one), part, ended(freed(lock3)))
	}
	gives := func(found uint64) []saw {
		return row(entered(lock3, 2), these(loaded(a, found)), ended(freed(lock3)))
	}
	joins := queuesUp(entry(9, one, 1))
	for name, c := range map[string]struct {
		c     parks.Check
		found uint64
		way   []saw
		ahead map[int]do
		o     parks.Outcome
		left  uint64
	}{
		"all are there":           {parks.Check{All: 3}, 3, row(in(3), tooLate(), out()), nil, parks.PaLate, 3},
		"one lacks":               {parks.Check{All: 3}, 1, gives(1), nil, parks.PaInvalid, 1},
		"all lack":                {parks.Check{All: 3}, 4, gives(4), nil, parks.PaInvalid, 4},
		"one of some":             {parks.Check{All: 1, Any: 12}, 5, row(in(5), tooLate(), out()), nil, parks.PaLate, 5},
		"none of some":            {parks.Check{All: 1, Any: 12}, 3, gives(3), nil, parks.PaInvalid, 3},
		"nothing is asked":        {parks.Check{}, 0, row(in(0), tooLate(), out()), nil, parks.PaLate, 0},
		"nothing of a full one":   {parks.Check{}, 255, row(in(255), tooLate(), out()), nil, parks.PaLate, 255},
		"last: it clears":         {parks.Check{All: 3, Clear: 2}, 7, row(in(7), tooLate(), out(and(a, 7, 5))), nil, parks.PaLate, 5},
		"last: it clears nothing": {parks.Check{All: 1, Clear: 8}, 7, row(in(7), tooLate(), out(and(a, 7, 7))), nil, parks.PaLate, 7},
		"not last":                {parks.Check{All: 3, Clear: 2}, 3, row(in(3), tooLate(), out()), map[int]do{9: joins}, parks.PaLate, 3},
		"not last, out":           {parks.Check{All: 3, Clear: 2}, 3, row(in(3), tooLate(), owned(lock3, one, 2), asked(), ended(freed(lock3))), map[int]do{9: both(takesOut(me), joins)}, parks.PaLate, 3},
		"last, out":               {parks.Check{All: 3, Clear: 2}, 3, row(in(3), tooLate(), owned(lock3, one, 2), asked(), these(and(a, 3, 1)), ended(freed(lock3))), map[int]do{9: takesOut(me)}, parks.PaLate, 1},
		"it is set meanwhile":     {parks.Check{All: 1, Clear: 2}, 1, row(in(1), tooLate(), out(and(a, 3, 1))), map[int]do{9: stores(a, 3)}, parks.PaLate, 1},
		"it changes ahead of it":  {parks.Check{All: 1}, 1, gives(2), map[int]do{4: stores(a, 2)}, parks.PaInvalid, 2},
		"unparked: nothing goes":  {parks.Check{All: 3, Clear: 3}, 3, row(in(3), wokenInTime()), map[int]do{8: wakes(0)}, parks.PaUnparked, 3},
		"unparked ahead of it":    {parks.Check{All: 3, Clear: 3}, 3, row(in(3), tooLate(), owned(lock3, one, 2), asked(), ended(freed(lock3))), map[int]do{9: wakes(0)}, parks.PaUnparked, 3},
	} {
		t.Run(name, func(t *testing.T) {
			c.c.Addr = a
			for _, h := range []parks.Hooks{c.c, &c.c} {
				w := world(t, 0, stands(a, c.found))
				check(t, w, parks.NewPark(me, one, mine, at(0), h), c.way, c.ahead, c.o, 0)
				if got := w.Cells.Peek(a); got != c.left {
					t.Errorf("%d stands there in the end", got)
				}
			}
		})
	}
}

// nested: hooks whose parts are Parks of other threads: theirs is not the line of this one.
type nested struct{ parks.Plain }

func (nested) Before() parks.Part { return parks.NewPark(9, other, 1, never(), nil) }

// P18.2: it is parked when its own line 8 is next, not as long as a part of it is.
func TestParkedIsOfItself(t *testing.T) {
	w := world(t, 0)
	x := parks.NewPark(me, one, mine, never(), nested{})
	for i := range 16 {
		if x.Step(w) || x.Parked() {
			t.Fatalf("step %d: over, or parked: %v", i+1, x.Parked())
		}
	}
	if !w.Permits.Asleep(18) || w.Permits.Asleep(myLot) {
		t.Error("the part of it does not sleep")
	}
	w.Permits.Unpark(18)
	if x.Step(w) || !x.Parked() {
		t.Error("it is not parked behind its part")
	}
	if x.Step(w); !w.Permits.Asleep(myLot) || w.Tables.Places(9)[0] != (tables.Place{Bits: 2, Bucket: 1}) {
		t.Error("it does not sleep")
	}
}
