package marks

import (
	"math"
	"math/bits"
	"strconv"
	"strings"
	"testing"
)

const (
	allOnes  = math.MaxUint64
	lastBit  = uint64(1) << 63
	maxReads = uint64(1)<<60 - 1
)

// The bits are part of the promises: who makes words by hand counts on them.
func TestBits(t *testing.T) {
	for _, c := range []struct {
		name      string
		got, want uint64
	}{
		{"MuLocked", MuLocked, 1}, {"MuParked", MuParked, 2},
		{"RwParked", RwParked, 1}, {"RwWaits", RwWaits, 2}, {"RwUpgr", RwUpgr, 4}, {"RwWriter", RwWriter, 8}, {"RwReader", RwReader, 16},
		{"OnDone", OnDone, 1}, {"OnPoison", OnPoison, 2}, {"OnLocked", OnLocked, 4}, {"OnParked", OnParked, 8},
	} {
		if c.got != c.want {
			t.Errorf("%s = %d, want %d", c.name, c.got, c.want)
		}
	}
}

// P1.1: the word of a lock, and what it says, for each word that says a thread or none.
func TestPutAs(t *testing.T) {
	for _, c := range []struct {
		says Word
		word uint64
	}{
		{Word{false, false, -1}, 0},
		{Word{true, false, -1}, 1},
		{Word{false, true, -1}, 2},
		{Word{true, true, -1}, 3},
		{Word{false, false, 0}, 4},
		{Word{true, false, 0}, 5},
		{Word{false, true, 0}, 6},
		{Word{true, true, 0}, 7},
		{Word{true, false, 2}, 13},
		{Word{false, true, 31}, 130},
		{Word{false, false, 62}, 252},
		{Word{false, false, 63}, 256},
		{Word{true, true, 63}, 259},
	} {
		if got := Put(c.says); got != c.word {
			t.Errorf("Put(%v) = %d, want %d", c.says, got, c.word)
		}
		if got := As(c.word); got != c.says {
			t.Errorf("As(%d) = %v, want %v", c.word, got, c.says)
		}
	}
}

// P1.1: a head that is no thread is none, and spoils no other bit.
func TestPutNoThread(t *testing.T) {
	for _, head := range []int{-1, -2, -64, 64, 65, 127, 128, 256, 1 << 30, 1 << 61, 1<<62 - 1, 1 << 62, math.MaxInt, math.MinInt} {
		for low := range uint64(4) {
			w := Word{Locked: low&1 != 0, Queued: low&2 != 0, Head: head}
			if got := Put(w); got != low {
				t.Errorf("Put(%v) = %d, want %d", w, got, low)
			}
		}
	}
}

// P1.1: bits 2 on that are no thread and 1 say that there is none; the bits below are told all the same.
func TestAsNoThread(t *testing.T) {
	numbers := []uint64{0, 65, 66, 127, 128, 129, 192, 255, 256, 257, 1 << 16, 1<<31 + 1, 1 << 32, 1<<32 + 1, 1<<32 + 64, 1<<61 + 3, 1<<62 - 1}
	for bit := 7; bit < 62; bit++ {
		numbers = append(numbers, 1<<bit, 1<<bit+1, 1<<bit+64)
	}
	for _, n := range numbers {
		for low := range uint64(4) {
			want := Word{Locked: low&1 != 0, Queued: low&2 != 0, Head: -1}
			if got := As(n<<2 + low); got != want {
				t.Errorf("As(%d) = %v, want %v", n<<2+low, got, want)
			}
		}
	}
}

// P1.2: readers are the number from bit 4 on; the bits below are none of them.
func TestReaders(t *testing.T) {
	for _, n := range []uint64{0, 1, 2, 3, 15, 16, 63, 64, 255, 1 << 28, 1 << 32, 1 << 59, maxReads - 1, maxReads} {
		for low := range uint64(16) {
			if got := Readers(n<<4 + low); got != n {
				t.Errorf("Readers(%d) = %d, want %d", n<<4+low, got, n)
			}
		}
	}
	if got := Readers(allOnes); got != maxReads {
		t.Errorf("Readers of all bits = %d, want %d", got, maxReads)
	}
}

// P1.2: each way in which the bits below the readers may stand, without readers and with some.
func TestMay(t *testing.T) {
	for _, c := range []struct {
		low         uint64
		alone, with bool // without readers, with readers
	}{
		{0, true, true},
		{RwWaits, false, false},
		{RwUpgr, false, true},
		{RwWaits + RwUpgr, false, false},
		{RwWriter, true, true},
		{RwWaits + RwWriter, true, true},
		{RwUpgr + RwWriter, false, false},
		{RwWaits + RwUpgr + RwWriter, false, false},
	} {
		for parked := range RwParked + 1 {
			if got := May(c.low + parked); got != c.alone {
				t.Errorf("May(%d) = %v, want %v", c.low+parked, got, c.alone)
			}
			for _, n := range []uint64{1, 2, 3, 64, 1 << 32, 1 << 59, maxReads} {
				if w := n<<4 + c.low + parked; May(w) != c.with {
					t.Errorf("May(%d) = %v, want %v", w, !c.with, c.with)
				}
			}
		}
	}
}

// P1.3: a mutex's byte.
func TestMutexText(t *testing.T) {
	for b, want := range map[uint64]string{
		0:           "0",
		1:           "locked",
		2:           "parked",
		3:           "locked+parked",
		4:           "4",
		5:           "locked+4",
		6:           "parked+4",
		7:           "locked+parked+4",
		10:          "parked+8",
		12:          "12",
		100:         "100",
		252:         "252",
		255:         "locked+parked+252",
		256:         "256",
		1 << 32:     "4294967296",
		lastBit:     "9223372036854775808",
		lastBit + 1: "locked+9223372036854775808",
		allOnes - 3: "18446744073709551612",
		allOnes:     "locked+parked+18446744073709551612",
	} {
		if got := Mutex(b); got != want {
			t.Errorf("Mutex(%d) = %q, want %q", b, got, want)
		}
	}
}

// P1.3: a once's byte.
func TestOnceText(t *testing.T) {
	named := []string{
		"", "done", "poison", "done+poison",
		"locked", "done+locked", "poison+locked", "done+poison+locked",
		"parked", "done+parked", "poison+parked", "done+poison+parked",
		"locked+parked", "done+locked+parked", "poison+locked+parked", "done+poison+locked+parked",
	}
	for low, names := range named {
		for rest, sum := range map[uint64]string{0: "", 16: "16", 32: "32", 48: "48", 240: "240", 1 << 32: "4294967296", lastBit: "9223372036854775808", allOnes - 15: "18446744073709551600"} {
			b := rest + uint64(low)
			if got, want := Once(b), both(names, sum); got != want {
				t.Errorf("Once(%d) = %q, want %q", b, got, want)
			}
		}
	}
}

// P1.3: a reader-writer lock's word: also one that may not be has a text.
func TestRwText(t *testing.T) {
	named := []string{
		"", "parked", "waits", "parked+waits",
		"upgr", "parked+upgr", "waits+upgr", "parked+waits+upgr",
		"writer", "parked+writer", "waits+writer", "parked+waits+writer",
		"upgr+writer", "parked+upgr+writer", "waits+upgr+writer", "parked+waits+upgr+writer",
	}
	for low, names := range named {
		for n, readers := range map[uint64]string{0: "", 1: "r1", 2: "r2", 3: "r3", 9: "r9", 10: "r10", 16: "r16", 64: "r64", 100: "r100", 1 << 32: "r4294967296", 1 << 59: "r576460752303423488", maxReads: "r1152921504606846975"} {
			w := n<<4 + uint64(low)
			if got, want := Rw(w), both(names, readers); got != want {
				t.Errorf("Rw(%d) = %q, want %q", w, got, want)
			}
		}
	}
}

// both of two texts, as a lock's text has them.
func both(names, last string) string {
	switch {
	case names == "" && last == "":
		return "0"
	case names == "":
		return last
	case last == "":
		return names
	}
	return names + "+" + last
}

// The chapter's examples.
func TestExamples(t *testing.T) {
	if got := Put(Word{true, false, 2}); got != 13 {
		t.Errorf("Put = %d", got)
	}
	if got := As(2); got != (Word{false, true, -1}) {
		t.Errorf("As(2) = %v", got)
	}
	for _, c := range []struct{ got, want string }{
		{Mutex(3), "locked+parked"},
		{Rw(8 + 48 + 1), "parked+writer+r3"},
		{Once(20), "locked+16"},
		{Mutex(0), "0"},
	} {
		if c.got != c.want {
			t.Errorf("%q, want %q", c.got, c.want)
		}
	}
}

// P1.4: each Word with a thread or none comes back from its word, and has that word alone.
func TestPutComesBack(t *testing.T) {
	seen := map[uint64]Word{}
	for low := range 4 {
		for head := -1; head < 64; head++ {
			w := Word{Locked: low&1 != 0, Queued: low&2 != 0, Head: head}
			u := Put(w)
			if got := As(u); got != w {
				t.Errorf("As(Put(%v)) = %v", w, got)
			}
			if got := Put(As(u)); got != u {
				t.Errorf("%v has the word %d, and put again %d", w, u, got)
			}
			if other, ok := seen[u]; ok {
				t.Errorf("%v and %v have the same word %d", w, other, u)
			}
			seen[u] = w
		}
	}
	if len(seen) != 4*65 {
		t.Errorf("%d words, want %d", len(seen), 4*65)
	}
}

// P1.4: a reader more, and one less again, is to be seen in the readers alone.
func TestReadersComeAndGo(t *testing.T) {
	for _, n := range []uint64{0, 1, 2, 15, 16, 63, 1<<32 - 1, 1<<59 - 1, maxReads - 1} {
		for low := range uint64(16) {
			w := n<<4 + low
			more := w + RwReader
			if Readers(w) != n || Readers(more) != n+1 || Readers(more-RwReader) != n {
				t.Errorf("readers of %d: %d, then %d, then %d", w, Readers(w), Readers(more), Readers(more-RwReader))
			}
			for _, bit := range []uint64{RwParked, RwWaits, RwUpgr, RwWriter} {
				if w&bit != more&bit {
					t.Errorf("bit %d of %d changes with a reader", bit, w)
				}
			}
			if got, want := namesOf(Rw(more), n+1), namesOf(Rw(w), n); got != want {
				t.Errorf("names of %d: %q, with a reader more %q", w, want, got)
			}
		}
	}
}

// namesOf a reader-writer lock's text with so many readers: what is ahead of them.
func namesOf(text string, readers uint64) string {
	if readers > 0 {
		text = strings.TrimSuffix(text, "r"+strconv.FormatUint(readers, 10))
	}
	if text == "0" {
		return ""
	}
	return strings.TrimSuffix(text, "+")
}

// R1 leaves no word out: each call answers for whatever bits.
func TestAnyWord(t *testing.T) {
	for i := range 64 {
		for j := range 64 {
			u := bits.RotateLeft64(1, i) | bits.RotateLeft64(3, j)
			for _, w := range []uint64{u, ^u} {
				checkAny(t, w)
			}
		}
	}
}

// checkAny word: what all answers have to do with each other.
func checkAny(t *testing.T, w uint64) {
	t.Helper()
	says := As(w)
	if head := w / 4; head >= 1 && head <= 64 {
		if Put(says) != w {
			t.Errorf("Put(As(%d)) = %d", w, Put(says))
		}
	} else if says.Head != -1 || Put(says) != w%4 {
		t.Errorf("As(%d) = %v", w, says)
	}
	if Readers(w) != w/16 {
		t.Errorf("Readers(%d) = %d", w, Readers(w))
	}
	for _, text := range []string{Mutex(w), Rw(w), Once(w)} {
		if text == "" || strings.HasPrefix(text, "+") || strings.HasSuffix(text, "+") || strings.Contains(text, "++") {
			t.Errorf("text of %d: %q", w, text)
		}
	}
	for _, c := range []struct {
		text string
		rest uint64
	}{{Mutex(w), w - w%4}, {Once(w), w - w%16}} {
		if sum := strconv.FormatUint(c.rest, 10); c.rest > 0 && c.text != sum && !strings.HasSuffix(c.text, "+"+sum) {
			t.Errorf("text of %d: %q, want %s at its end", w, c.text, sum)
		}
	}
}
