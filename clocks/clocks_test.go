package clocks

import (
	"math"
	"slices"
	"testing"

	"layby/api"
)

const (
	allOnes = math.MaxUint64
	lastBit = uint64(1) << 63
)

// numbers of all sorts: near nothing, near the bits' ends, and the greatest one.
func numbers() []uint64 {
	return []uint64{
		0, 1, 2, 3, 7, 9, 10, 255, 256, 65535, 65536, 1<<32 - 1, 1 << 32, 1<<32 + 1,
		lastBit - 1, lastBit, lastBit + 1, allOnes - 2, allOnes - 1, allOnes,
	}
}

// rising: so many numbers from one on.
func rising(from uint64, n int) []uint64 {
	l := make([]uint64, n)
	for i := range l {
		l[i] = from + uint64(i)
	}
	return l
}

// at: a clock that ticked so often.
func at(tick uint64) *Clock {
	c := New(nil, 0)
	c.Tick(tick)
	return c
}

// stays: a sum of ticks that stays at the greatest number.
func stays(x, y uint64) uint64 {
	if x+y < x {
		return allOnes
	}
	return x + y
}

// checkDraws that are left: that they are drawn as these, one by one, and nothing behind them.
func checkDraws(t *testing.T, c *Clock, want ...uint64) {
	t.Helper()
	for i, w := range want {
		if got := c.Left(); got != len(want)-i {
			t.Fatalf("Left = %d ahead of draw %d of %d", got, i, len(want))
		}
		if got := c.Draw(); got != w {
			t.Fatalf("draw %d = %d, want %d", i, got, w)
		}
	}
	checkNoDraws(t, c)
}

// checkNoDraws are left, however often it is asked.
func checkNoDraws(t *testing.T, c *Clock) {
	t.Helper()
	for range 3 {
		if got := c.Left(); got != 0 {
			t.Fatalf("Left = %d, want 0", got)
		}
		if got := c.Draw(); got != 0 {
			t.Fatalf("Draw of none = %d", got)
		}
	}
}

// P3.1: a new clock stands at tick 0, and has its draws.
func TestNew(t *testing.T) {
	for _, draws := range [][]uint64{nil, {}, {0}, {5}, {3, 2, 1}, {4, 4, allOnes, 0}} {
		for _, most := range numbers() {
			c := New(draws, most)
			if c == nil {
				t.Fatalf("New(%v, %d) is none", draws, most)
			}
			if c.Now() != 0 || c.Left() != len(draws) {
				t.Errorf("New(%v, %d): Now = %d, Left = %d", draws, most, c.Now(), c.Left())
			}
		}
		checkDraws(t, New(draws, allOnes), draws...)
	}
}

// P3.1: of draws there are 65536 at most; the ones behind are left out.
func TestNewLeavesOut(t *testing.T) {
	for _, n := range []int{65534, 65535, 65536, 65537, 65538, 70000, 131072, 131073} {
		l := rising(1, n)
		c := New(l, allOnes)
		if got, want := c.Left(), min(n, 65536); got != want {
			t.Errorf("of %d draws there are %d", n, got)
		}
		checkDraws(t, c, l[:min(n, 65536)]...)
	}
}

// P3.1: what is handed in is neither changed nor kept, whoever writes it, and what stands behind it neither.
func TestNewKeepsNothing(t *testing.T) {
	memory := []uint64{7, 12, 8, 91, 92, 93}
	was := slices.Clone(memory)
	c, other := New(memory[:3], 9), New(memory[:3], 9)
	c.More([]uint64{5, 6})
	if got := c.Draw(); got != 7 {
		t.Errorf("Draw = %d, want 7", got)
	}
	if !slices.Equal(memory, was) {
		t.Errorf("what was handed in is %v then", memory)
	}
	for i := range memory {
		memory[i] = 1
	}
	checkDraws(t, c, 2, 8, 5, 6)
	checkDraws(t, other, 7, 2, 8)
}

// P3.2: ticks are added, and stay at the greatest number.
func TestTick(t *testing.T) {
	for _, x := range numbers() {
		for _, y := range numbers() {
			c := at(x)
			if got := c.Now(); got != x {
				t.Errorf("Now = %d behind %d ticks", got, x)
			}
			c.Tick(y)
			if got := c.Now(); got != stays(x, y) {
				t.Errorf("Now = %d behind %d and %d ticks", got, x, y)
			}
		}
	}
}

// P3.2: the ends, written out.
func TestTickEnds(t *testing.T) {
	c := New(nil, 0)
	for _, x := range []struct{ n, now uint64 }{
		{0, 0}, {1, 1}, {0, 1}, {4, 5}, {lastBit, lastBit + 5}, {lastBit - 8, allOnes - 2}, {1, allOnes - 1}, {0, allOnes - 1},
		{1, allOnes}, {0, allOnes}, {1, allOnes}, {allOnes, allOnes}, {lastBit, allOnes},
	} {
		c.Tick(x.n)
		if got := c.Now(); got != x.now {
			t.Errorf("Now = %d behind %d more, want %d", got, x.n, x.now)
		}
	}
	for _, x := range []struct{ first, n, now uint64 }{
		{allOnes - 1, 1, allOnes}, {allOnes - 1, 2, allOnes}, {allOnes - 1, allOnes, allOnes}, {allOnes - 9, 8, allOnes - 1},
		{1, allOnes, allOnes}, {1, allOnes - 1, allOnes}, {1, allOnes - 2, allOnes - 1}, {lastBit, lastBit, allOnes}, {lastBit, lastBit - 1, allOnes},
	} {
		c := at(x.first)
		c.Tick(x.n)
		if got := c.Now(); got != x.now {
			t.Errorf("Now = %d behind %d and %d ticks, want %d", got, x.first, x.n, x.now)
		}
	}
}

// P3.2: a deadline is on, and as many ticks from now, or at the greatest number; asking for it is no tick.
func TestAfter(t *testing.T) {
	for _, x := range numbers() {
		for _, y := range numbers() {
			c := at(x)
			for range 2 {
				if got, want := c.After(y), (api.Until{On: true, At: stays(x, y)}); got != want {
					t.Errorf("After(%d) = %v at tick %d, want %v", y, got, x, want)
				}
			}
			if got := c.Now(); got != x {
				t.Errorf("Now = %d behind After(%d), want %d", got, y, x)
			}
		}
	}
	for _, x := range []struct{ tick, n, at uint64 }{
		{0, 0, 0}, {0, allOnes, allOnes}, {1, allOnes - 1, allOnes}, {1, allOnes, allOnes}, {5, allOnes - 2, allOnes},
		{allOnes - 1, 0, allOnes - 1}, {allOnes - 1, 1, allOnes}, {allOnes - 1, 2, allOnes}, {allOnes, 0, allOnes}, {allOnes, 1, allOnes}, {allOnes, allOnes, allOnes},
	} {
		if got, want := at(x.tick).After(x.n), (api.Until{On: true, At: x.at}); got != want {
			t.Errorf("After(%d) = %v at tick %d, want %v", x.n, got, x.tick, want)
		}
	}
}

// P3.2: a deadline that is on has come from its tick on; one that is not on never has.
func TestCome(t *testing.T) {
	for _, tick := range numbers() {
		for _, end := range numbers() {
			c := at(tick)
			if got := c.Come(api.Until{On: true, At: end}); got != (tick >= end) {
				t.Errorf("%d has come at tick %d: %v", end, tick, got)
			}
			if c.Come(api.Until{At: end}) {
				t.Errorf("%d, that is not on, has come at tick %d", end, tick)
			}
			if got := c.Now(); got != tick {
				t.Errorf("Now = %d behind Come, want %d", got, tick)
			}
		}
	}
	for _, x := range []struct {
		tick uint64
		u    api.Until
		want bool
	}{
		{0, api.Until{}, false}, {0, api.Until{On: true}, true}, {0, api.Until{On: true, At: 1}, false}, {5, api.Until{}, false},
		{allOnes - 1, api.Until{On: true, At: allOnes}, false}, {allOnes, api.Until{On: true, At: allOnes}, true},
		{allOnes, api.Until{At: allOnes}, false}, {allOnes, api.Until{On: true}, true}, {lastBit, api.Until{On: true, At: lastBit - 1}, true},
	} {
		if got := at(x.tick).Come(x.u); got != x.want {
			t.Errorf("%v has come at tick %d: %v", x.u, x.tick, got)
		}
	}
}

// P3.3: the first one that is left is drawn, modulo most and 1.
func TestDraw(t *testing.T) {
	for _, most := range numbers() {
		l, want := numbers(), numbers()
		for i := range want {
			if most != allOnes {
				want[i] = l[i] % (most + 1)
			}
		}
		checkDraws(t, New(l, most), want...)
	}
}

// P3.3: the ends of most, written out.
func TestDrawMost(t *testing.T) {
	for _, x := range []struct {
		most        uint64
		draws, want []uint64
	}{
		{0, []uint64{0, 1, 2, allOnes}, []uint64{0, 0, 0, 0}},
		{1, []uint64{0, 1, 2, 3, allOnes}, []uint64{0, 1, 0, 1, 1}},
		{9, []uint64{9, 10, 11, 20, allOnes}, []uint64{9, 0, 1, 0, 5}},
		{lastBit - 1, []uint64{lastBit - 1, lastBit, allOnes}, []uint64{lastBit - 1, 0, lastBit - 1}},
		{lastBit, []uint64{lastBit, lastBit + 1, allOnes}, []uint64{lastBit, 0, lastBit - 2}},
		{allOnes - 1, []uint64{allOnes - 2, allOnes - 1, allOnes}, []uint64{allOnes - 2, allOnes - 1, 0}},
		{allOnes, []uint64{allOnes - 1, allOnes, 0, 5}, []uint64{allOnes - 1, allOnes, 0, 5}},
	} {
		checkDraws(t, New(x.draws, x.most), x.want...)
		c := New(nil, x.most)
		c.More(x.draws)
		checkDraws(t, c, x.want...)
	}
}

// P3.3: more draws come behind those that are left, in their order, behind draws that are drawn as well.
func TestMore(t *testing.T) {
	c := New([]uint64{10, 20, 30}, 99)
	c.More([]uint64{40, 150})
	c.More(nil)
	c.More([]uint64{})
	for _, want := range []uint64{10, 20} {
		if got := c.Draw(); got != want {
			t.Errorf("Draw = %d, want %d", got, want)
		}
	}
	c.More([]uint64{60})
	checkDraws(t, c, 30, 40, 50, 60)
	c.More([]uint64{170, 80})
	checkDraws(t, c, 70, 80)
	c.More([]uint64{})
	checkNoDraws(t, c)
}

// P3.3: draws of none are not owed: what comes behind them is drawn whole.
func TestMoreBehindNone(t *testing.T) {
	for _, c := range []*Clock{New(nil, allOnes), New([]uint64{}, allOnes), New([]uint64{1, 2}, allOnes)} {
		for c.Left() > 0 {
			c.Draw()
		}
		checkNoDraws(t, c)
		c.More([]uint64{8, 9})
		checkDraws(t, c, 8, 9)
	}
}

// P3.3: there is room for more till 65536 are left; of what does not go in, the ones behind are left out.
func TestMoreLeavesOut(t *testing.T) {
	for _, first := range []int{0, 1, 2, 65534, 65535, 65536, 65537} {
		for _, more := range []int{0, 1, 2, 3, 65534, 65535, 65536, 65537, 70000} {
			l := rising(1, first)[:min(first, 65536)]
			c := New(rising(1, first), allOnes)
			c.More(rising(100001, more))
			l = append(l, rising(100001, more)[:min(more, 65536-len(l))]...)
			checkDraws(t, c, l...)
		}
	}
}

// P3.3: what is drawn makes room for as many, and what was left out is not there then.
func TestMoreWhereDrawn(t *testing.T) {
	c := New(rising(1, 65540), allOnes)
	c.More([]uint64{900001})
	for i := range uint64(3) {
		if got := c.Draw(); got != i+1 {
			t.Fatalf("Draw = %d, want %d", got, i+1)
		}
	}
	if got := c.Left(); got != 65533 {
		t.Errorf("Left = %d, want 65533", got)
	}
	c.More(rising(100001, 2))
	c.More(rising(200001, 2))
	c.More(rising(300001, 2))
	checkDraws(t, c, append(rising(4, 65533), 100001, 100002, 200001)...)
	c.More(rising(1, 65537))
	checkDraws(t, c, rising(1, 65536)...)
}

// P3.3: one by one as many go in as at once.
func TestMoreOneByOne(t *testing.T) {
	c := New(nil, allOnes)
	for i := range uint64(65540) {
		c.More([]uint64{i + 1})
		if got := c.Left(); got != min(int(i)+1, 65536) {
			t.Fatalf("Left = %d behind %d more", got, i+1)
		}
	}
	checkDraws(t, c, rising(1, 65536)...)
}

// P3.3: what More is handed is neither changed nor kept, whoever writes it, and what stands behind it neither.
func TestMoreKeepsNothing(t *testing.T) {
	for _, first := range [][]uint64{nil, {3}, {3, 4, 5, 6, 7}} {
		memory := []uint64{11, 12, 13, 91, 92, 93}
		was := slices.Clone(memory)
		c, other := New(first, allOnes), New(nil, allOnes)
		c.More(memory[:3])
		other.More(memory[:3])
		c.More([]uint64{14})
		other.More([]uint64{15})
		if !slices.Equal(memory, was) {
			t.Errorf("what was handed in is %v then", memory)
		}
		for i := range memory {
			memory[i] = 1
		}
		checkDraws(t, c, append(slices.Clone(first), 11, 12, 13, 14)...)
		checkDraws(t, other, 11, 12, 13, 15)
	}
}

// P3.3: a list too long is left as it was, too.
func TestLongListUnchanged(t *testing.T) {
	l := rising(1, 65540)
	c := New(l, 9)
	c.More(l)
	c.Draw()
	c.More(l)
	if !slices.Equal(l, rising(1, 65540)) {
		t.Error("what was handed in is changed")
	}
	clear(l)
	for i := range uint64(65536) {
		want := (i + 2) % 10
		if i == 65535 {
			want = 1
		}
		if got := c.Draw(); got != want {
			t.Fatalf("draw %d = %d, want %d", i, got, want)
		}
	}
	checkNoDraws(t, c)
}

// P3.3: ticks take no draws, draws no ticks, and who asks how many are left takes nothing.
func TestTicksAndDrawsApart(t *testing.T) {
	c := New([]uint64{5, 6}, 9)
	c.Tick(4)
	c.After(2)
	c.Come(api.Until{On: true})
	if got := c.Left(); got != 2 {
		t.Errorf("Left = %d behind ticks", got)
	}
	checkDraws(t, c, 5, 6)
	c.More([]uint64{3})
	if got := c.Now(); got != 4 {
		t.Errorf("Now = %d behind draws", got)
	}
	c.Tick(1)
	checkDraws(t, c, 3)
}

// Two clocks share nothing.
func TestClocksApart(t *testing.T) {
	l := []uint64{5, 6}
	c, other := New(l, 9), New(l, 3)
	c.Tick(7)
	c.More([]uint64{8})
	c.Draw()
	if got := other.Now(); got != 0 {
		t.Errorf("Now = %d of another clock", got)
	}
	checkDraws(t, other, 1, 2)
	checkDraws(t, c, 6, 8)
}

// No clock: nothing comes, nothing is kept.
func TestNoClock(t *testing.T) {
	var none *Clock
	for range 2 {
		none.Tick(3)
		none.Tick(allOnes)
		none.More([]uint64{1, 2, 3})
		if none.Now() != 0 || none.Left() != 0 || none.Draw() != 0 {
			t.Errorf("Now = %d, Left = %d of none", none.Now(), none.Left())
		}
		for _, n := range numbers() {
			if got := none.After(n); got != (api.Until{}) {
				t.Errorf("After(%d) of none = %v", n, got)
			}
			if none.Come(api.Until{On: true, At: n}) || none.Come(api.Until{At: n}) {
				t.Errorf("%d has come of none", n)
			}
		}
	}
}

// A clock that no call made has no draws, and most 0, whatever is asked of it first.
func TestClockOfNoCall(t *testing.T) {
	for _, do := range []func(c *Clock){
		func(*Clock) {},
		func(c *Clock) { c.Tick(0) },
		func(c *Clock) { c.After(1) },
		func(c *Clock) { c.Come(api.Until{On: true}) },
		func(c *Clock) { c.Draw() },
		func(c *Clock) { c.More(nil) },
		func(c *Clock) { c.Left() },
	} {
		var c Clock
		do(&c)
		if c.Now() != 0 || !c.Come(api.Until{On: true}) || c.Come(api.Until{}) || c.Come(api.Until{On: true, At: 1}) {
			t.Errorf("Now = %d", c.Now())
		}
		checkNoDraws(t, &c)
		c.Tick(5)
		if got := c.After(3); c.Now() != 5 || got != (api.Until{On: true, At: 8}) {
			t.Errorf("Now = %d, After(3) = %v", c.Now(), got)
		}
		c.More([]uint64{1, 0, allOnes})
		checkDraws(t, &c, 0, 0, 0)
		c.More(rising(1, 65537))
		if got := c.Left(); got != 65536 {
			t.Errorf("Left = %d, want 65536", got)
		}
	}
}

// P3.4: a deadline that is n ticks away comes with the n-th tick, one by one or at once, and has come for ever.
func TestComesWithItsTick(t *testing.T) {
	for _, first := range []uint64{0, 1, 5, 1 << 32, lastBit - 3, allOnes - 20} {
		for n := range uint64(12) {
			c, leap := at(first), at(first)
			u := c.After(n)
			for i := range n {
				if c.Come(u) {
					t.Errorf("%d ticks from %d: come with tick %d", n, first, i)
				}
				c.Tick(1)
			}
			if n > 0 {
				leap.Tick(n - 1)
				if leap.Come(u) {
					t.Errorf("%d ticks from %d: come ahead of it", n, first)
				}
				leap.Tick(1)
			}
			for range 30 {
				if !c.Come(u) || !leap.Come(u) {
					t.Errorf("%d ticks from %d: not come at %d, %d", n, first, c.Now(), leap.Now())
				}
				c.Tick(1)
				leap.Tick(allOnes / 7)
			}
		}
	}
}

// P3.4: one that is beyond the greatest tick comes with that, not ahead of it.
func TestComesWithTheGreatestTick(t *testing.T) {
	for _, n := range []uint64{3, 4, 5, 100, lastBit, allOnes - 1, allOnes} {
		c := at(allOnes - 3)
		u := c.After(n)
		for range 2 {
			c.Tick(1)
			if c.Come(u) {
				t.Errorf("%d ticks from 3 ahead of the greatest: come at %d", n, c.Now())
			}
		}
		c.Tick(1)
		for range 3 {
			if !c.Come(u) {
				t.Errorf("%d ticks from 3 ahead of the greatest: not come at %d", n, c.Now())
			}
			c.Tick(1)
		}
	}
}

// P3.4: whatever is asked, the tick never falls, what has come stays so, and each draw is drawn once, in order, most at most.
func TestWhatFollows(t *testing.T) {
	turn := uint64(1)
	next := func(n int) int { // numbers without a pattern, the same each time
		turn = turn*6364136223846793005 + 1442695040888963407
		return int(turn >> 33 % uint64(n))
	}
	for _, most := range []uint64{0, 1, 6, 99, lastBit, allOnes - 1, allOnes} {
		c := New(nil, most)
		var tick uint64
		var left []uint64
		var ends []api.Until
		for range 4000 {
			switch next(5) {
			case 0:
				n := []uint64{0, 1, 2, 30, 1 << 53}[next(5)]
				c.Tick(n)
				tick = stays(tick, n)
			case 1:
				ends = append(ends, c.After(numbers()[next(len(numbers()))]))
				ends = ends[max(0, len(ends)-40):]
			case 2:
				var l []uint64
				for range next(4) {
					l = append(l, numbers()[next(len(numbers()))])
				}
				c.More(l)
				left = append(left, l...)
			default:
				var want uint64
				if len(left) > 0 {
					want, left = left[0], left[1:]
					if most != allOnes {
						want %= most + 1
					}
				}
				if got := c.Draw(); got != want || got > most {
					t.Fatalf("Draw = %d, want %d; most is %d", got, want, most)
				}
			}
			if c.Now() != tick || c.Left() != len(left) {
				t.Fatalf("Now = %d, want %d; Left = %d, want %d", c.Now(), tick, c.Left(), len(left))
			}
			for _, u := range ends {
				if got := c.Come(u); got != (tick >= u.At) {
					t.Fatalf("%v has come at %d: %v", u, tick, got)
				}
			}
		}
	}
}

// The chapter's examples.
func TestExamples(t *testing.T) {
	c := New([]uint64{7, 12}, 9)
	for i, want := range []uint64{7, 2, 0} {
		if got := c.Draw(); got != want {
			t.Errorf("draw %d = %d, want %d", i, got, want)
		}
	}
	c.Tick(5)
	u := c.After(3)
	if u != (api.Until{On: true, At: 8}) {
		t.Errorf("After(3) = %v", u)
	}
	c.Tick(2)
	if c.Now() != 7 || c.Come(u) {
		t.Errorf("it has come at %d", c.Now())
	}
	c.Tick(1)
	if c.Now() != 8 || !c.Come(u) {
		t.Errorf("it has not come at %d", c.Now())
	}
}
