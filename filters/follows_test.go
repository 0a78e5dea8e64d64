package filters_test

import (
	"slices"
	"testing"

	"layby/alls"
	"layby/api"
	"layby/fairs"
	"layby/filters"
	"layby/lines"
	"layby/notes"
	"layby/ones"
	"layby/worlds"
)

// every one is taken by this filter.
type every struct{}

func (every) Choose(uint64) lines.Choice { return lines.ChTake }

// first: a filter that takes the first one that it is asked for, and stops.
type first struct{ asked bool }

func (f *first) Choose(uint64) lines.Choice {
	if f.asked {
		return lines.ChStop
	}
	f.asked = true
	return lines.ChTake
}

// operation of another layer.
type operation interface {
	Step(w *worlds.World) bool
	Over() bool
}

// alike: a Some in a world, and another operation in one of its own.
type alike struct {
	w, as   *worlds.World
	x       *filters.Some
	other   operation
	untimed bool // the other one asks no timer
}

// step both, behind something of somebody else: they do the same, but for notes' kinds.
func (c *alike) step(t *testing.T, act do) {
	t.Helper()
	act(c.w)
	act(c.as)
	over, want := c.x.Step(c.w), c.other.Step(c.as)
	if over != want || c.x.Over() != c.other.Over() || stateOf(c.w) != stateOf(c.as) || !slices.Equal(c.w.Cells.Words(), c.as.Cells.Words()) {
		t.Fatalf("over: %v, want %v; %+v, want %+v", over, want, stateOf(c.w), stateOf(c.as))
	}
	is, as := looksOf(c.w), looksOf(c.as)
	for i, note := range is.notes {
		if note.Kind != notes.NtPick || as.notes[i].Kind != notes.NtTake {
			t.Fatalf("notes %+v, and %+v", note, as.notes[i])
		}
		is.notes[i].Kind = notes.NtTake
	}
	if c.untimed {
		is.timers, is.left = as.timers, as.left
	}
	if !is.same(as) {
		t.Fatalf("%+v, want %+v", is, as)
	}
}

// asAll: that a Some that takes all is an All, where some are queued: behind something ahead of each step; is the timer due?
func asAll(t *testing.T, queue []lines.Entry, due bool, ahead map[int]do) {
	t.Helper()
	for _, token := range []uint64{0, 9, 1 << 63} {
		c := &alike{w: having(t, queue...), as: having(t, queue...), untimed: due}
		all := alls.NewAll(me, one, token)
		c.x, c.other = filters.NewSome(me, one, every{}, ones.Token(token)), all
		for i := range 30 {
			act := ahead[i+1]
			if act == nil {
				act = idle
			}
			c.step(t, act)
			if _, got := c.x.Got(); !slices.Equal(got, all.Got()) {
				t.Fatalf("got %v, want %v", got, all.Got())
			}
		}
		r, got := c.x.Got()
		want := ones.Result{Many: len(got), Thread: -1}
		if len(got) > 0 {
			want.Thread, want.Fair = got[0], due
		}
		if r != want && c.x.Over() {
			t.Fatalf("got %+v, want %+v", r, want)
		}
	}
}

// asOne: that a Some that takes the first one, and stops, is a One, where some are queued: behind something ahead of each step, by an answer whose part has so many steps.
func asOne(t *testing.T, queue []lines.Entry, size int, ahead map[int]do) {
	t.Helper()
	c := &alike{w: having(t, queue...), as: having(t, queue...)}
	logs := [2]*asks{{w: c.w}, {w: c.as}}
	as := ones.NewOne(me, one, &answer{steps: size, token: 40, log: logs[1]})
	c.x, c.other = filters.NewSome(me, one, &first{}, &answer{steps: size, token: 40, log: logs[0]}), as
	for i := range 30 {
		act := ahead[i+1]
		if act == nil {
			act = idle
		}
		c.step(t, act)
		var threads []int
		if as.Got().Many == 1 {
			threads = some(as.Got().Thread)
		}
		checkGot(t, i, c.x, as.Got(), threads)
	}
	if !slices.Equal(logs[0].told, logs[1].told) || len(logs[0].bad) != 0 {
		t.Fatalf("told %+v, want %+v", logs[0].told, logs[1].told)
	}
}

// shortQueues of three keys, of threads that are each there once, or twice.
func shortQueues(most int) [][]lines.Entry {
	keys := []api.Addr{one, neighbour, other}
	var out [][]lines.Entry
	for size := range most + 1 {
		count := 1
		for range size {
			count *= len(keys)
		}
		for number := range count {
			for _, turn := range []int{2, 30} {
				var queue []lines.Entry
				for i, n := 0, number; i < size; i++ {
					queue = append(queue, entry((60-i*7)%turn+i/turn*turn, keys[n%len(keys)], uint64(i)))
					n /= len(keys)
				}
				out = append(out, queue)
			}
		}
	}
	return out
}

// P21.2: a filter that takes all is an All; what that asks no timer for, is fair here.
func TestAsAll(t *testing.T) {
	for _, queue := range shortQueues(4) {
		asAll(t, queue, false, nil)
		asAll(t, queue, true, map[int]do{1: ticks(2)})
	}
	for _, queue := range [][]lines.Entry{crowded(), lonely(), refused(), deserted(), nil} {
		for at := range 12 {
			for _, act := range allActs() {
				asAll(t, queue, false, map[int]do{at + 1: both(func(w *worlds.World) { act(w) }, neverDue)})
			}
		}
	}
}

// neverDue: no timer is due, whatever the clock says.
func neverDue(w *worlds.World) {
	for bits := 2; bits <= 4; bits++ {
		for n := range 1 << bits {
			w.Tables.PutTimer(bucket(bits, n), fairs.Timer{At: 1<<64 - 1})
		}
	}
}

// P21.2: a filter that takes the first one, and stops, is a One.
func TestAsOne(t *testing.T) {
	for _, queue := range shortQueues(4) {
		for _, size := range sizes() {
			asOne(t, queue, size, nil)
			asOne(t, queue, size, map[int]do{1: ticks(2)})
		}
	}
	for _, queue := range [][]lines.Entry{crowded(), lonely(), refused(), deserted(), nil} {
		for at := range 9 {
			for _, act := range allActs() {
				asOne(t, queue, at%4-1, map[int]do{at + 1: act})
			}
		}
	}
}

// P21.2: who is skipped, or stands behind a stop, stays where it is: for whoever asks next it is as if nobody else had been there.
func TestWhoStays(t *testing.T) {
	for _, queue := range shortQueues(4) {
		for mask := range 1 << (2 * len(queue)) {
			for i := range queue {
				queue[i].Token = uint64(mask >> (2 * i) % 4)
			}
			w := world(t, 0)
			w.Tables.Put(home(), queue)
			threads, more, left := chosen(queue)
			x := plain()
			through(t, w, x)
			r, got := x.Got()
			if !slices.Equal(got, threads) || r.More != more || !slices.Equal(w.Tables.Queue(home()), left) {
				t.Fatalf("%v: got %v, left are %v", queue, got, w.Tables.Queue(home()))
			}
			all := alls.NewAll(me, one, 1)
			through(t, w, all)
			var rest []int
			for _, e := range left {
				if e.Key == one {
					rest = append(rest, e.Thread)
				}
			}
			if !slices.Equal(all.Got(), rest) {
				t.Fatalf("%v: %v stayed, want %v", queue, all.Got(), rest)
			}
		}
	}
}
