// Package marks is layer 1: what words of locks say. See doc/01-marks.md.
package marks

import (
	"strconv"
	"strings"

	"layby/api"
)

// Word of a one-word lock.
type Word struct {
	Locked bool
	Queued bool // somebody goes through the queue
	Head   int  // thread that came last; -1: none
}

// Bits of a one-word lock's word; its head and 1 stands from bit headFrom on.
const (
	wordLocked uint64 = 1
	wordQueued uint64 = 2
	headFrom          = 2
)

// Bits of a mutex's byte.
const (
	MuLocked uint64 = 1
	MuParked uint64 = 2
)

// Bits of a reader-writer lock's word; its readers are the number from bit readersFrom on.
const (
	RwParked    uint64 = 1  // somebody is parked
	RwWaits     uint64 = 2  // a writer is parked till readers are gone
	RwUpgr      uint64 = 4  // an upgradable reader
	RwWriter    uint64 = 8  // a writer
	RwReader    uint64 = 16 // one reader
	readersFrom        = 4
)

// Bits of a once's byte.
const (
	OnDone   uint64 = 1
	OnPoison uint64 = 2
	OnLocked uint64 = 4
	OnParked uint64 = 8
)

// Rows of namedBits.
const (
	mutexRow = iota
	rwRow
	onceRow
)

// namedBit is a mask of one bit, and its name.
type namedBit struct {
	mask uint64
	name string
}

// namedBits of each sort of lock, the lowest first. An entry without a mask is nobody's: it is never there.
var namedBits = [3][4]namedBit{
	{{MuLocked, "locked"}, {MuParked, "parked"}},
	{{RwParked, "parked"}, {RwWaits, "waits"}, {RwUpgr, "upgr"}, {RwWriter, "writer"}},
	{{OnDone, "done"}, {OnPoison, "poison"}, {OnLocked, "locked"}, {OnParked, "parked"}},
}

// Put a lock's word. (P1.1)
func Put(w Word) uint64 {
	var u uint64
	if w.Locked {
		u |= wordLocked
	}
	if w.Queued {
		u |= wordQueued
	}
	// A head that is no thread is left out: it would run over into what others mean.
	if w.Head >= 0 && w.Head < api.MaxThreads {
		u |= uint64(w.Head+1) << headFrom
	}
	return u
}

// As: what a lock's word says. (P1.1)
func As(w uint64) Word {
	head := -1
	// Held against the limit as 64 bits, ahead of the conversion: an int may be too small for it.
	if n := w >> headFrom; n >= 1 && n <= api.MaxThreads {
		head = int(n) - 1
	}
	return Word{Locked: w&wordLocked != 0, Queued: w&wordQueued != 0, Head: head}
}

// Readers of a reader-writer lock's word. (P1.2)
func Readers(w uint64) uint64 { return w >> readersFrom }

// May a reader-writer lock's word be? (P1.2)
func May(w uint64) bool {
	upgr, writer, waits := w&RwUpgr != 0, w&RwWriter != 0, w&RwWaits != 0
	switch {
	case upgr && writer:
		return false
	case upgr && Readers(w) == 0:
		return false
	case waits && !writer:
		return false
	}
	return true
}

// Mutex's byte as text. (P1.3)
func Mutex(b uint64) string {
	names, rest := named(mutexRow, b)
	return joined(counted("", rest), names...)
}

// Rw word as text. (P1.3)
func Rw(w uint64) string {
	names, _ := named(rwRow, w)
	return joined(counted("r", Readers(w)), names...)
}

// Once's byte as text. (P1.3)
func Once(b uint64) string {
	names, rest := named(onceRow, b)
	return joined(counted("", rest), names...)
}

// named: the names of the bits that are there, and the sum of those that have none.
func named(row int, w uint64) (names []string, rest uint64) {
	rest = w
	for _, b := range namedBits[row] {
		if w&b.mask != 0 {
			names = append(names, b.name)
			rest &^= b.mask
		}
	}
	return names, rest
}

// counted: a number behind a sign; nothing of 0.
func counted(sign string, n uint64) string {
	if n == 0 {
		return ""
	}
	return sign + strconv.FormatUint(n, 10)
}

// joined: names, and what is last, if anything is.
func joined(last string, names ...string) string {
	if last != "" {
		names = append(names, last)
	}
	if len(names) == 0 {
		return "0"
	}
	return strings.Join(names, "+")
}
