package grows

import (
	"layby/api"
	"layby/buckets"
	"layby/hashes"
	"layby/worlds"
)

// part of a Join: a line, or what a line does at one bucket.
type part interface {
	// step of it: is it over? Where it turns out what is to be done behind it, it adds that: nothing else is left then.
	step(x *Join, w *worlds.World) bool
}

// operation of another package.
type operation interface {
	Step(w *worlds.World) bool
}

// under way is an operation: a Lock, or a Free.
type under struct{ operation }

func (p under) step(_ *Join, w *worlds.World) bool {
	return p.Step(w)
}

// count the thread with all that joined (line 1).
type count struct{}

func (count) step(x *Join, w *worlds.World) bool {
	x.bits = hashes.Bits(joined(w.Cells.Add(api.CellThreads, 1)))
	return true
}

// joined: how many threads, by what stood ahead of one more; no more than there may be.
func joined(stood uint64) int {
	// Cut down ahead of the sum, since that goes round.
	return int(min(stood, api.MaxThreads-1)) + 1
}

// look which table counts (line 2): where it is too small, all its locks are taken.
type look struct{}

func (look) step(x *Join, w *worlds.World) bool {
	word := w.Cells.Load(api.CellTable)
	if bits := buckets.Bits(word); bits < x.bits {
		x.take(bits)
		x.add(ask{word})
	}
	return true
}

// ask which table counts now that all locks are had (line 4): is it still that of the word that was found?
type ask struct{ word uint64 }

func (p ask) step(x *Join, w *worlds.World) bool {
	bits := buckets.Bits(p.word)
	if w.Cells.Load(api.CellTable) == p.word {
		x.add(replace{bits})
		x.leave(bits)
	} else {
		x.leave(bits)
		x.add(look{})
	}
	return true
}

// replace a table of so many bits (line 5). All its locks are had: nobody is at its queues.
type replace struct{ bits int }

func (p replace) step(x *Join, w *worlds.World) bool {
	w.Cells.Store(api.CellTable, uint64(x.bits))
	w.Tables.Grow(p.bits, x.bits, w.Clock.Now())
	return true
}
