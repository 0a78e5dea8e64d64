package cells

import (
	"math"
	"slices"
	"testing"

	"layby/api"
)

const (
	allOnes = math.MaxUint64
	lastBit = uint64(1) << 63
	highest = api.Addr(math.MaxUint32)
)

// byteAddrs: the addresses that have bytes, written out.
func byteAddrs() []api.Addr {
	return []api.Addr{
		1024, 1028, 1032, 1036, 1040, 1044, 1048, 1052,
		1120, 1124, 1128, 1132, 1136, 1140, 1144, 1148,
	}
}

// wordAddrs: some that have words, those beside the bytes and between them among them.
func wordAddrs() []api.Addr {
	return []api.Addr{
		0, 1, 2, 63, 64, 127, 255, 256, 260, 519, 767,
		1020, 1022, 1023, 1025, 1026, 1027, 1029, 1051, 1053, 1054, 1055, 1056, 1057, 1060, 1085, 1088, 1116,
		1118, 1119, 1121, 1122, 1123, 1125, 1147, 1149, 1150, 1151, 1152, 1156, 1180,
		1 << 16, 1<<16 + 1024, 1 << 31, 1<<31 + 1024, highest - 3, highest - 1, highest,
	}
}

// values of all sorts: within a byte, at its end, beyond it, and of all bits.
func values() []uint64 {
	return []uint64{
		0, 1, 2, 3, 127, 128, 254, 255, 256, 257, 258, 300, 511, 512, 1 << 16, 1<<32 - 1, 1 << 32, 1<<32 + 1,
		lastBit - 1, lastBit, lastBit + 1, allOnes - 255, allOnes - 254, allOnes - 1, allOnes,
	}
}

// keeps: what an address keeps of a value.
func keeps(a api.Addr, v uint64) uint64 {
	if slices.Contains(byteAddrs(), a) {
		return v % 256
	}
	return v
}

// checkWords that are told.
func checkWords(t *testing.T, c *Cells, want ...Word) {
	t.Helper()
	got := c.Words()
	if !slices.Equal(got, want) {
		t.Errorf("Words = %v, want %v", got, want)
	}
	if cap(got) != len(got) {
		t.Errorf("Words have room for %d behind", cap(got)-len(got))
	}
}

// checkLast access, what stands where it was, and how many there were.
func checkLast(t *testing.T, c *Cells, want api.Access, count int) {
	t.Helper()
	if got := c.Last(); got != want {
		t.Errorf("Last = %v, want %v", got, want)
	}
	if got := c.Peek(want.Addr); got != want.Is {
		t.Errorf("Peek(%d) = %d, want %d", want.Addr, got, want.Is)
	}
	if got := c.Count(); got != count {
		t.Errorf("Count = %d, want %d", got, count)
	}
}

// P2.1: mutexes and onces have bytes, all else words.
func TestByte(t *testing.T) {
	for _, a := range byteAddrs() {
		if !Byte(a) {
			t.Errorf("Byte(%d) = false", a)
		}
	}
	for _, a := range wordAddrs() {
		if Byte(a) {
			t.Errorf("Byte(%d) = true", a)
		}
	}
}

// P2.1: there are no other bytes: neither near them, nor where an address goes round, nor as far from them as each bit is.
func TestNoOtherBytes(t *testing.T) {
	n := 0
	for a := range api.Addr(1 << 16) {
		if Byte(a) {
			n++
		}
	}
	if n != 16 {
		t.Errorf("%d bytes, want 16", n)
	}
	for a := highest - 1<<12; a != 0; a++ {
		if Byte(a) {
			t.Errorf("Byte(%d) = true", a)
		}
	}
	for bit := 11; bit < 32; bit++ {
		for _, a := range byteAddrs() {
			if far := a + 1<<bit; Byte(far) {
				t.Errorf("Byte(%d) = true", far)
			}
		}
	}
}

// P2.1: without words handed in all stands at 0, and no access was made.
func TestNewEmpty(t *testing.T) {
	for _, c := range []*Cells{New(), New([]Word{}...), New([]Word(nil)...), New(Word{}), New(Word{Addr: 1024, Value: 256})} {
		checkWords(t, c)
		checkLast(t, c, api.Access{}, 0)
		for _, a := range append(byteAddrs(), wordAddrs()...) {
			if got := c.Peek(a); got != 0 {
				t.Errorf("Peek(%d) = %d", a, got)
			}
		}
	}
}

// P2.1: what is handed in stands there, brought, and is no access.
func TestNewWords(t *testing.T) {
	for _, a := range append(byteAddrs(), wordAddrs()...) {
		for _, v := range values() {
			c := New(Word{a, v})
			if got := c.Peek(a); got != keeps(a, v) {
				t.Errorf("of %d at %d there stands %d at first", v, a, got)
			}
			if c.Count() != 0 || c.Last() != (api.Access{}) {
				t.Errorf("Count = %d, Last = %v at first", c.Count(), c.Last())
			}
		}
	}
}

// P2.1: of several of one address the last one counts, a 0 and what is brought to 0 as well.
func TestNewLastCounts(t *testing.T) {
	checkWords(t, New(Word{1024, 259}, Word{7, 1}, Word{7, 0}), Word{1024, 3})
	checkWords(t, New(Word{7, 0}, Word{7, 1}), Word{7, 1})
	checkWords(t, New(Word{7, 5}, Word{8, 6}, Word{7, 4}, Word{7, 9}), Word{7, 9}, Word{8, 6})
	checkWords(t, New(Word{1148, 5}, Word{1148, 512}))
	checkWords(t, New(Word{1148, 5}, Word{1149, 512}, Word{1148, 0}, Word{1148, 511}), Word{1148, 255}, Word{1149, 512})
	checkWords(t, New(Word{highest, allOnes}, Word{0, lastBit}, Word{highest, 1}), Word{0, lastBit}, Word{highest, 1})
}

// P2.1: what is handed in is neither changed nor kept, and cells of the same words do not mind each other.
func TestNewKeepsNothing(t *testing.T) {
	l := []Word{{9, 5}, {1024, 300}, {2, 7}, {9, 6}}
	was := slices.Clone(l)
	c, other := New(l...), New(l...)
	c.Store(9, 1)
	c.Store(3, 1)
	if !slices.Equal(l, was) {
		t.Errorf("what was handed in is %v then", l)
	}
	for i := range l {
		l[i] = Word{1, 99}
	}
	checkWords(t, c, Word{2, 7}, Word{3, 1}, Word{9, 1}, Word{1024, 44})
	checkWords(t, other, Word{2, 7}, Word{9, 6}, Word{1024, 44})
}

// P2.2: each access, at each sort of address, of what stood and what is handed to it: what it tells, and what stands then.
func TestAccesses(t *testing.T) {
	for _, x := range []struct {
		kind api.AcKind
		do   func(c *Cells, a api.Addr, v uint64) uint64
		is   func(stood, v uint64) uint64
	}{
		{api.AcLoad, func(c *Cells, a api.Addr, _ uint64) uint64 { return c.Load(a) }, func(stood, _ uint64) uint64 { return stood }},
		{api.AcStore, (*Cells).Store, func(_, v uint64) uint64 { return v }},
		{api.AcSwap, (*Cells).Swap, func(_, v uint64) uint64 { return v }},
		{api.AcAdd, (*Cells).Add, func(stood, v uint64) uint64 { return stood + v }},
		{api.AcAnd, (*Cells).And, func(stood, v uint64) uint64 { return stood & v }},
		{api.AcOr, (*Cells).Or, func(stood, v uint64) uint64 { return stood | v }},
	} {
		for _, a := range []api.Addr{0, 1023, 1024, 1025, 1052, 1053, 1056, 1120, 1148, 1152, highest} {
			for _, first := range values() {
				for _, v := range values() {
					c := New(Word{a, first})
					stood := keeps(a, first)
					if got := x.do(c, a, v); got != stood {
						t.Fatalf("access %d at %d with %d: %d stood, want %d", x.kind, a, v, got, stood)
					}
					checkLast(t, c, api.Access{Kind: x.kind, Addr: a, Was: stood, Is: keeps(a, x.is(stood, v))}, 1)
				}
			}
		}
	}
}

// P2.2: a CAS is done just where what stood is was, as it was handed in; what it is then is brought.
func TestCAS(t *testing.T) {
	for _, a := range []api.Addr{0, 1023, 1024, 1025, 1052, 1053, 1056, 1120, 1148, 1152, highest} {
		for _, first := range values() {
			for _, was := range values() {
				for _, is := range values() {
					c := New(Word{a, first})
					stood, want := keeps(a, first), keeps(a, first)
					if was == stood {
						want = keeps(a, is)
					}
					if got, done := c.CAS(a, was, is); got != stood || done != (was == stood) {
						t.Fatalf("CAS(%d, %d, %d) where %d stood: %d, %v", a, was, is, stood, got, done)
					}
					checkLast(t, c, api.Access{Kind: api.AcCAS, Addr: a, Was: stood, Is: want}, 1)
				}
			}
		}
	}
}

// P2.2: the edges of a CAS, written out.
func TestCASEdges(t *testing.T) {
	for _, x := range []struct {
		first Word
		was   uint64
		is    uint64
		done  bool
		want  uint64
	}{
		{Word{1024, 1}, 1, 2, true, 2},
		{Word{1024, 1}, 0, 2, false, 1},
		{Word{1024, 1}, 257, 2, false, 1},
		{Word{1024, 0}, 256, 2, false, 0},
		{Word{1024, 255}, 511, 7, false, 255},
		{Word{1024, 255}, allOnes, 7, false, 255},
		{Word{1024, 511}, 511, 7, false, 255},
		{Word{1024, 511}, 255, 257, true, 1},
		{Word{1024, 3}, 3, 256, true, 0},
		{Word{1148, 4}, 4, 4, true, 4},
		{Word{1148, 4}, 260, 4, false, 4},
		{Word{1025, 1}, 257, 2, false, 1},
		{Word{1025, 257}, 257, 258, true, 258},
		{Word{1025, 257}, 1, 2, false, 257},
		{Word{99, 0}, 0, 257, true, 257},
		{Word{99, allOnes}, allOnes, 0, true, 0},
		{Word{99, lastBit}, 0, 1, false, lastBit},
	} {
		c := New(x.first)
		stood := c.Peek(x.first.Addr)
		if got, done := c.CAS(x.first.Addr, x.was, x.is); got != stood || done != x.done || c.Peek(x.first.Addr) != x.want {
			t.Errorf("CAS(%d, %d, %d) where %d stood: %d, %v, then %d stands", x.first.Addr, x.was, x.is, stood, got, done, c.Peek(x.first.Addr))
		}
	}
}

// P2.2: sums go round: at 64 bits at a word, at 256 at a byte.
func TestSumsGoRound(t *testing.T) {
	c := New(Word{5, allOnes}, Word{6, lastBit}, Word{1024, 200}, Word{1120, 1})
	for _, x := range []struct {
		a               api.Addr
		v, stood, stand uint64
	}{
		{5, 1, allOnes, 0}, {5, allOnes, 0, allOnes}, {5, allOnes, allOnes, allOnes - 1},
		{6, lastBit, lastBit, 0}, {6, allOnes, 0, allOnes},
		{1024, 56, 200, 0}, {1024, 300, 0, 44}, {1024, 256, 44, 44}, {1024, allOnes, 44, 43}, {1024, 1 << 40, 43, 43},
		{1120, 255, 1, 0}, {1120, allOnes, 0, 255}, {1120, allOnes, 255, 254},
	} {
		if got := c.Add(x.a, x.v); got != x.stood || c.Peek(x.a) != x.stand {
			t.Errorf("Add(%d, %d): %d stood, %d stands", x.a, x.v, got, c.Peek(x.a))
		}
	}
}

// P2.3: what is asked without an access: it is not counted, not the last one, and changes nothing.
func TestNoAccess(t *testing.T) {
	c := New(Word{3, 7}, Word{1024, 1})
	c.Swap(3, 8)
	last := api.Access{Kind: api.AcSwap, Addr: 3, Was: 7, Is: 8}
	for range 3 {
		checkLast(t, c, last, 1)
		checkWords(t, c, Word{3, 8}, Word{1024, 1})
		if got := c.Peek(1024); got != 1 {
			t.Errorf("Peek = %d", got)
		}
		if got := c.Peek(77); got != 0 {
			t.Errorf("Peek = %d", got)
		}
	}
}

// P2.3: each access counts one, a CAS that is not done and a Store of what stood among them.
func TestCount(t *testing.T) {
	c := New(Word{0, 1})
	for i, do := range []func(){
		func() { c.Load(0) },
		func() { c.Load(highest) },
		func() { c.Store(0, 1) },
		func() { c.CAS(0, 1, 2) },
		func() { c.CAS(0, 1, 2) },
		func() { c.Swap(0, 2) },
		func() { c.Add(0, 0) },
		func() { c.And(0, allOnes) },
		func() { c.Or(0, 0) },
		func() { c.Store(0, 0) },
		func() { c.Store(1024, 256) },
	} {
		do()
		if got := c.Count(); got != i+1 {
			t.Errorf("Count = %d behind %d accesses", got, i+1)
		}
	}
}

// P2.3: all that is not 0 is told by rising addresses, in whatever order it came; what becomes 0 again is told no more.
func TestWords(t *testing.T) {
	c := New()
	for i, a := range []api.Addr{1152, highest, 0, 1024, 1 << 31, 2, 1023, 1120, 1, 1025} {
		c.Store(a, uint64(i)+1)
	}
	checkWords(t, c, Word{0, 3}, Word{1, 9}, Word{2, 6}, Word{1023, 7}, Word{1024, 4}, Word{1025, 10}, Word{1120, 8}, Word{1152, 1}, Word{1 << 31, 5}, Word{highest, 2})
	c.Store(2, 0)
	c.Swap(0, 0)
	c.And(1023, 8)
	c.Add(1025, allOnes-9)
	c.Add(1024, 252)
	c.CAS(1120, 8, 256)
	c.CAS(1, 8, 0)
	checkWords(t, c, Word{1, 9}, Word{1152, 1}, Word{1 << 31, 5}, Word{highest, 2})
	c.Or(2, 5)
	checkWords(t, c, Word{1, 9}, Word{2, 5}, Word{1152, 1}, Word{1 << 31, 5}, Word{highest, 2})
}

// P2.3: many words are told in order, too.
func TestManyWords(t *testing.T) {
	c := New()
	var want []Word
	for i := range uint64(1000) {
		want = append(want, Word{api.Addr(2000 + 7*i), i + 1})
		back := 999 - i
		c.Store(api.Addr(2000+7*back), back+1)
	}
	checkWords(t, c, want...)
}

// P2.3: what was told is its asker's own memory.
func TestWordsAreOnesOwn(t *testing.T) {
	c := New(Word{3, 7}, Word{1024, 1})
	first, second := c.Words(), c.Words()
	for i := range first {
		first[i] = Word{99, 99}
	}
	_ = append(first, Word{98, 98})
	if want := []Word{{3, 7}, {1024, 1}}; !slices.Equal(second, want) {
		t.Errorf("Words told already are %v", second)
	}
	checkWords(t, c, Word{3, 7}, Word{1024, 1})
	c.Store(3, 8)
	if want := []Word{{3, 7}, {1024, 1}}; !slices.Equal(second, want) {
		t.Errorf("Words told already are %v behind an access", second)
	}
}

// No more is kept than what is not 0.
func TestKeepsNoZeros(t *testing.T) {
	c := New(Word{1, 1}, Word{1, 0}, Word{1024, 256})
	for a := range api.Addr(2000) {
		c.Load(a)
		c.Store(a, 0)
		c.CAS(a, 1, 2)
		c.Add(a, 1)
		c.And(a, 0)
		c.Peek(a)
	}
	if len(c.stands) != 0 {
		t.Errorf("%d zeros are kept", len(c.stands))
	}
}

// No cells: nothing stands, nothing is kept, and no CAS is done.
func TestNoCells(t *testing.T) {
	var none *Cells
	for range 2 {
		for _, a := range []api.Addr{0, 1, 1024, 1148, highest} {
			for name, got := range map[string]uint64{
				"Load": none.Load(a), "Store": none.Store(a, 1), "Swap": none.Swap(a, 1), "Add": none.Add(a, 1),
				"And": none.And(a, 1), "Or": none.Or(a, 1), "Peek": none.Peek(a),
			} {
				if got != 0 {
					t.Errorf("%s(%d) of none = %d", name, a, got)
				}
			}
			for _, was := range []uint64{0, 1} {
				if stood, done := none.CAS(a, was, 1); stood != 0 || done {
					t.Errorf("CAS(%d, %d, 1) of none = %d, %v", a, was, stood, done)
				}
			}
		}
		checkWords(t, none)
		checkLast(t, none, api.Access{}, 0)
	}
}

// Cells that no call made are new ones, whatever is asked of them first.
func TestCellsOfNoCall(t *testing.T) {
	for kind, do := range map[api.AcKind]func(c *Cells) uint64{
		api.AcLoad:  func(c *Cells) uint64 { return c.Load(5) },
		api.AcStore: func(c *Cells) uint64 { return c.Store(5, 6) },
		api.AcCAS:   func(c *Cells) uint64 { stood, _ := c.CAS(5, 0, 6); return stood },
		api.AcSwap:  func(c *Cells) uint64 { return c.Swap(5, 6) },
		api.AcAdd:   func(c *Cells) uint64 { return c.Add(5, 6) },
		api.AcAnd:   func(c *Cells) uint64 { return c.And(5, 6) },
		api.AcOr:    func(c *Cells) uint64 { return c.Or(5, 6) },
	} {
		var c Cells
		checkWords(t, &c)
		checkLast(t, &c, api.Access{}, 0)
		var is uint64
		if kind != api.AcLoad && kind != api.AcAnd {
			is = 6
		}
		if stood := do(&c); stood != 0 {
			t.Errorf("access %d: %d stood", kind, stood)
		}
		checkLast(t, &c, api.Access{Kind: kind, Addr: 5, Is: is}, 1)
		if stood := c.Store(1024, 258); stood != 0 || c.Peek(1024) != 2 || c.Count() != 2 {
			t.Errorf("%d stood, %d stands behind access %d", stood, c.Peek(1024), kind)
		}
	}
	var c Cells
	if stood, done := c.CAS(5, 1, 6); stood != 0 || done {
		t.Errorf("CAS from 1 = %d, %v", stood, done)
	}
	checkWords(t, &c)
}

// P2.4: behind whatever accesses each tells what the one ahead of it, there, left; no other address changes; bytes stay below 256.
func TestEachAddressAlone(t *testing.T) {
	addrs := append(byteAddrs(), 0, 1, 1023, 1025, 1056, 1119, 1152, 1<<31+1024, highest)
	slices.Sort(addrs)
	left := map[api.Addr]uint64{}
	c := New()
	turn := uint64(1)
	next := func(n int) int { // numbers without a pattern, the same each time
		turn = turn*6364136223846793005 + 1442695040888963407
		return int(turn >> 33 % uint64(n))
	}
	for count := range 20000 {
		a, v := addrs[next(len(addrs))], values()[next(len(values()))]
		was := left[a]
		if next(2) == 0 {
			was = values()[next(len(values()))]
		}
		var stood uint64
		done := true
		switch next(7) {
		case 0:
			stood = c.Load(a)
		case 1:
			stood = c.Store(a, v)
		case 2:
			stood, done = c.CAS(a, was, v)
			if done != (left[a] == was) {
				t.Fatalf("CAS(%d, %d, %d) where %d stood: %v", a, was, v, left[a], done)
			}
		case 3:
			stood = c.Swap(a, v)
		case 4:
			stood = c.Add(a, v)
		case 5:
			stood = c.And(a, v)
		case 6:
			stood = c.Or(a, v)
		}
		last := c.Last()
		if stood != left[a] || last.Addr != a || last.Was != stood || c.Count() != count+1 {
			t.Fatalf("%d stood at %d, want %d; Last = %v", stood, a, left[a], last)
		}
		if !done && last.Is != stood {
			t.Fatalf("a CAS that was not done leaves %d of %d", last.Is, stood)
		}
		left[a] = last.Is
		for _, other := range addrs {
			if got := c.Peek(other); got != left[other] || got != keeps(other, got) {
				t.Fatalf("%d stands at %d, want %d; Last = %v", got, other, left[other], last)
			}
		}
	}
	var want []Word
	for _, a := range addrs {
		if left[a] != 0 {
			want = append(want, Word{a, left[a]})
		}
	}
	checkWords(t, c, want...)
}

// P2.4: a number, then its negative, is nothing.
func TestAddAndBack(t *testing.T) {
	for _, a := range append(byteAddrs(), wordAddrs()...) {
		for _, first := range values() {
			for _, v := range values() {
				c := New(Word{a, first})
				c.Add(a, v)
				if more := c.Add(a, -v); more != keeps(a, keeps(a, first)+v) {
					t.Fatalf("%d and %d is %d at %d", first, v, more, a)
				}
				if got := c.Peek(a); got != keeps(a, first) {
					t.Fatalf("%d and %d less %d is %d at %d", first, v, v, got, a)
				}
			}
		}
	}
}

// Two Cells share nothing.
func TestCellsApart(t *testing.T) {
	c, other := New(Word{5, 1}), New(Word{5, 1})
	c.Store(5, 2)
	c.Store(1024, 3)
	checkWords(t, other, Word{5, 1})
	checkLast(t, other, api.Access{}, 0)
}

// The chapter's examples.
func TestExamples(t *testing.T) {
	c := New()
	if stood := c.Store(1024, 258); stood != 0 {
		t.Errorf("Store: %d stood", stood)
	}
	if stood := c.Load(1024); stood != 2 {
		t.Errorf("Load = %d", stood)
	}
	if stood := c.Or(1024, 1); stood != 2 {
		t.Errorf("Or: %d stood", stood)
	}
	if stood, done := c.CAS(1024, 3, 1); stood != 3 || !done {
		t.Errorf("CAS = %d, %v", stood, done)
	}
	if stood := c.Add(1024, 255); stood != 1 {
		t.Errorf("Add: %d stood", stood)
	}
	checkLast(t, c, api.Access{Kind: api.AcAdd, Addr: 1024, Was: 1, Is: 0}, 5)
	checkWords(t, c)
}
