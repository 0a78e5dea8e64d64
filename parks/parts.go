package parks

import (
	"layby/api"
	"layby/buckets"
	"layby/lines"
	"layby/notes"
	"layby/permits"
	"layby/wordfrees"
	"layby/worlds"
)

// do a part, and behind it what follows. Nothing takes no step: what follows comes at once.
func (x *Park) do(p Part, behind func()) {
	if p == nil {
		behind()
		return
	}
	x.part, x.behind = p, behind
}

// once: one step, and behind it what follows.
func (x *Park) once(step func(w *worlds.World), behind func()) {
	x.do(&one{does: step}, behind)
}

// enter the key's bucket (line 1).
func (x *Park) enter() {
	enter := buckets.NewEnter(x.entry.Thread, x.entry.Key)
	x.do(enter, func() {
		x.place = enter.Got()
		x.validate()
	})
}

// validate under the lock (line 2): may it park at all?
func (x *Park) validate() {
	look := x.hooks.Validate()
	if look == nil {
		x.store()
		return
	}
	x.do(look, func() {
		if look.Ok() {
			x.store()
		} else {
			x.leave(PaInvalid)
		}
	})
}

// store the key (line 4): by that its thread finds its own bucket.
func (x *Park) store() {
	x.once(func(w *worlds.World) {
		w.Cells.Store(api.CellKey+api.Addr(x.entry.Thread), uint64(x.entry.Key))
	}, x.queue)
}

// queue it (line 5), and let the lock go (line 6).
func (x *Park) queue() {
	x.once(func(w *worlds.World) {
		w.Permits.Prepare(x.lot())
		queue := lines.Moved(w.Tables.Queue(x.place), []lines.Entry{x.entry}, x.entry.Key)
		w.Tables.Put(x.place, queue)
		w.Note(x.entry.Thread, notes.NtPark, x.entry.Key)
	}, func() { x.free(x.before) })
}

// before it sleeps, behind the lock (line 7).
func (x *Park) before() {
	x.do(x.hooks.Before(), x.sleep)
}

// sleep (line 8) till it is unparked, or its deadline comes.
func (x *Park) sleep() {
	s := &sleep{parker: x.lot(), until: x.until}
	x.do(s, func() {
		if s.got == permits.OuLate {
			x.own()
		} else {
			x.end(PaUnparked)
		}
	})
}

// own bucket of its thread (line 9): it may have been moved, and the table replaced.
func (x *Park) own() {
	own := buckets.NewOwn(x.entry.Thread)
	x.do(own, func() {
		place, key := own.Got()
		x.place = place
		x.ask(key)
	})
}

// ask under the lock whether it is late (line 10): whoever took it out ahead of that unparked it.
func (x *Park) ask(key api.Addr) {
	var late, last bool
	x.once(func(w *worlds.World) {
		late = w.Permits.Late(x.lot())
		if late {
			last = x.gone(w, key)
		}
	}, func() {
		if late {
			x.late(key, last)
		} else {
			x.leave(PaUnparked)
		}
	})
}

// gone: its thread is out of the queue of its place. Was it the last one of the key?
func (x *Park) gone(w *worlds.World, key api.Addr) bool {
	queue := w.Tables.Queue(x.place)
	_, left, was := lines.Cut(queue, lines.Of(queue, x.entry.Thread))
	if was {
		w.Tables.Put(x.place, left)
		w.Note(x.entry.Thread, notes.NtGone, key)
	}
	return !lines.Has(left, key)
}

// late it is (line 12), and gone.
func (x *Park) late(key api.Addr, last bool) {
	x.do(x.hooks.Late(key, last), func() { x.leave(PaLate) })
}

// free the lock of its place (lines 3, 6, 11, 13).
func (x *Park) free(behind func()) {
	x.do(wordfrees.NewFree(x.lock()), behind)
}

// leave its place, and be over.
func (x *Park) leave(o Outcome) {
	x.free(func() { x.end(o) })
}

// end it.
func (x *Park) end(o Outcome) {
	x.part, x.behind, x.ended = nil, nil, o
}

// sleep at a parker, with a deadline or without.
type sleep struct {
	parker int
	until  api.Until
	got    permits.Outcome
}

// Step of it: as often as whoever sleeps there is asked.
func (s *sleep) Step(w *worlds.World) bool {
	if s.until.On {
		s.got = w.Permits.Until(s.parker, s.until.At, w.Clock.Now())
	} else {
		s.got = w.Permits.Park(s.parker)
	}
	return s.got != permits.OuBlocks
}
