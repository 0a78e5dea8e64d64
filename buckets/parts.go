package buckets

import (
	"layby/api"
	"layby/tables"
	"layby/wordfrees"
	"layby/wordlocks"
	"layby/worlds"
)

// way to the lock that counts: a row of parts, one behind the other. One without parts is over.
type way struct {
	parts []part
	at    int // which part is next; behind the last one it is over
	seen  seen
}

// part of a way: one line.
type part interface {
	// begin it: is there anything to do? If not, it takes no step.
	begin(s *seen) bool
	// step of it: is it over?
	step(s *seen, w *worlds.World) bool
}

// operation that is one line of another one.
type operation interface {
	Step(w *worlds.World) bool
	Over() bool
}

// word of a cell: what it said when it was read.
type word struct {
	cell api.Addr
	key  bool // it says a key: the upper half of what stands there is none of it
	said uint64
}

// look at what a word says.
func (x *word) look(w *worlds.World) uint64 {
	stood := w.Cells.Load(x.cell)
	if x.key {
		return uint64(api.Addr(stood))
	}
	return stood
}

// seen by the parts of a way.
type seen struct {
	thread     int
	key, table *word
	place      tables.Place // by what both words say
	stale      bool         // one of them says something else by now
	under      operation    // the Lock or the Free of that place
}

// over: is no part left?
func (x *way) over() bool {
	return x.at >= len(x.parts)
}

// got: the place and the key whose lock is had; none, as long as it is not over.
func (x *way) got() (tables.Place, api.Addr) {
	// One that was over from the start has seen no key.
	if !x.over() || x.seen.key == nil {
		return tables.Place{}, 0
	}
	return x.seen.place, api.Addr(x.seen.key.said)
}

// step of the part that is next; behind it comes the first one that has anything to do.
func (x *way) step(w *worlds.World) {
	if !x.parts[x.at].step(&x.seen, w) {
		return
	}
again:
	for x.at++; x.at < len(x.parts); x.at++ {
		if x.parts[x.at].begin(&x.seen) {
			return
		}
	}
	// The lock that was had may not be the one that counts any more, and was given back.
	if x.seen.stale {
		x.seen.stale = false
		x.at = -1
		goto again
	}
}

// read a word: it says where to go.
type read struct{ *word }

func (read) begin(*seen) bool { return true }

func (p read) step(_ *seen, w *worlds.World) bool {
	p.said = p.look(w)
	return true
}

// ask a word again, under the lock: does it say the same still?
type ask struct{ *word }

func (ask) begin(s *seen) bool { return !s.stale }

func (p ask) step(s *seen, w *worlds.World) bool {
	s.stale = p.look(w) != p.said
	return true
}

// steps of the operation that is under way.
type steps struct{}

func (steps) step(s *seen, w *worlds.World) bool { return s.under.Step(w) }

// take the lock of the place that the words say.
type take struct{ steps }

func (take) begin(s *seen) bool {
	s.place = Place(api.Addr(s.key.said), s.table.said)
	s.under = wordlocks.NewLock(s.thread, Lock(s.place))
	return !s.under.Over()
}

// leave the lock that was taken, if it may not be the one that counts.
type leave struct{ steps }

func (leave) begin(s *seen) bool {
	if !s.stale {
		return false
	}
	s.under = wordfrees.NewFree(Lock(s.place))
	return !s.under.Over()
}
