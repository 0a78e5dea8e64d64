package fairs

import (
	"math"
	"math/big"
	"testing"
)

// last tick there is, and the greatest draw.
const last uint64 = math.MaxUint64

// ticks: 0, 1, the greatest one, those around each power of 2, and some between.
func ticks() []uint64 {
	out := []uint64{0, 1, 2, 3, 5, 6, 7, 10, 16, 17, 99, 1000, 12345, last / 3, last/2 - 1, last - 17, last - 9, last - 2, last - 1, last}
	for n := range 64 {
		power := uint64(1) << n
		out = append(out, power-1, power, power+1)
	}
	return out
}

// timers: fired ahead of At, at it, and behind it.
func timers() []Timer {
	marked := []uint64{0, 1, 2, 5, 16, 1 << 31, 1 << 32, 1 << 63, last - 9, last - 1, last}
	var out []Timer
	for _, at := range marked {
		for _, fired := range marked {
			out = append(out, Timer{At: at, Fired: fired})
		}
	}
	return out
}

// endOf a draw, worked out by whole numbers of any length.
func endOf(now, draw uint64) uint64 {
	sum := new(big.Int).Add(new(big.Int).SetUint64(now), new(big.Int).SetUint64(draw))
	if sum.Cmp(new(big.Int).SetUint64(last)) > 0 {
		return last
	}
	return sum.Uint64()
}

// P8.1: both of a timer that begins are the tick.
func TestBegin(t *testing.T) {
	for _, now := range ticks() {
		if got := Begin(now); got.At != now || got.Fired != now {
			t.Errorf("Begin(%d) = %v", now, got)
		}
	}
	for now, want := range map[uint64]Timer{0: {}, 1: {At: 1, Fired: 1}, 1 << 32: {At: 4294967296, Fired: 4294967296}, last: {At: 18446744073709551615, Fired: 18446744073709551615}} {
		if got := Begin(now); got != want {
			t.Errorf("Begin(%d) = %v, want %v", now, got, want)
		}
	}
}

// P8.1: a timer that just began is not due at its tick, nor ahead of it, and is due at each later one.
func TestBeginIsDueBehindItsTick(t *testing.T) {
	for _, began := range ticks() {
		for _, now := range ticks() {
			later := now != began && max(now, began) == now
			if got := Due(Begin(began), now); got != later {
				t.Errorf("begun at %d, due at %d: %v", began, now, got)
			}
		}
	}
}

// P8.1: just above At; at 0 and at the greatest tick too, wherever Fired is.
func TestDue(t *testing.T) {
	for i, c := range []struct {
		t    Timer
		now  uint64
		want bool
	}{
		{Timer{At: 16, Fired: 6}, 15, false},
		{Timer{At: 16, Fired: 6}, 16, false},
		{Timer{At: 16, Fired: 6}, 17, true},
		{Timer{At: 16, Fired: 6}, 0, false},
		{Timer{At: 16, Fired: 6}, 6, false},
		{Timer{At: 16, Fired: 6}, 7, false},
		{Timer{At: 16, Fired: 6}, last, true},
		{Timer{}, 0, false},
		{Timer{}, 1, true},
		{Timer{}, last, true},
		{Timer{At: 0, Fired: 5}, 0, false},
		{Timer{At: 0, Fired: 5}, 1, true},
		{Timer{At: 0, Fired: last}, 1, true},
		{Timer{At: 3, Fired: 9}, 2, false},
		{Timer{At: 3, Fired: 9}, 3, false},
		{Timer{At: 3, Fired: 9}, 4, true},
		{Timer{At: 3, Fired: 9}, 9, true},
		{Timer{At: last, Fired: 0}, 0, false},
		{Timer{At: last, Fired: 0}, last - 1, false},
		{Timer{At: last, Fired: 0}, last, false},
		{Timer{At: last, Fired: last}, last, false},
		{Timer{At: last - 1, Fired: 0}, last - 1, false},
		{Timer{At: last - 1, Fired: 0}, last, true},
		{Timer{At: last - 1, Fired: last}, last, true},
		{Timer{At: 1<<63 - 1, Fired: 0}, 1 << 63, true},
		{Timer{At: 1 << 63, Fired: 0}, 1<<63 - 1, false},
		{Timer{At: 1 << 32, Fired: 0}, 1, false},
		{Timer{At: 1, Fired: 0}, 1 << 32, true},
	} {
		if got := Due(c.t, c.now); got != c.want {
			t.Errorf("%d: Due(%v, %d) = %v", i, c.t, c.now, got)
		}
	}
}

// P8.1: of any timer, At alone counts.
func TestDueHangsOnAt(t *testing.T) {
	for _, one := range timers() {
		for _, now := range ticks() {
			above := new(big.Int).SetUint64(now).Cmp(new(big.Int).SetUint64(one.At)) == 1
			if got := Due(one, now); got != above {
				t.Errorf("Due(%v, %d) = %v", one, now, got)
			}
		}
	}
}

// P8.2: a timer that is not due stays as it is, both of it, whatever the draw.
func TestFireNotDue(t *testing.T) {
	for _, one := range timers() {
		for _, now := range ticks() {
			if now > one.At {
				continue
			}
			for _, draw := range []uint64{0, 1, 10, last - 1, last} {
				if got, fired := Fire(one, now, draw); got != one || fired {
					t.Errorf("Fire(%v, %d, %d) = %v, %v", one, now, draw, got, fired)
				}
			}
		}
	}
}

// P8.2: of one that is due, At is the tick and the draw, and Fired the tick, whatever stood in it.
func TestFireDue(t *testing.T) {
	for _, one := range timers() {
		for _, now := range ticks() {
			if now <= one.At {
				continue
			}
			for _, draw := range []uint64{0, 1, 2, 10, 1 << 32, 1 << 63, last - now, last - 9, last - 1, last} {
				want := Timer{At: endOf(now, draw), Fired: now}
				if got, fired := Fire(one, now, draw); got != want || !fired {
					t.Errorf("Fire(%v, %d, %d) = %v, %v, want %v", one, now, draw, got, fired, want)
				}
			}
		}
	}
}

// P8.2: draws of 0, up to the greatest number of 64 bits, and beyond it: written out.
func TestFireDraws(t *testing.T) {
	for i, c := range []struct {
		t         Timer
		now, draw uint64
		want      Timer
	}{
		{Timer{At: 16, Fired: 6}, 17, 0, Timer{At: 17, Fired: 17}},
		{Timer{At: 16, Fired: 6}, 17, 1, Timer{At: 18, Fired: 17}},
		{Timer{At: 16, Fired: 6}, 99, 3, Timer{At: 102, Fired: 99}},
		{Timer{At: 3, Fired: 9}, 4, 2, Timer{At: 6, Fired: 4}},
		{Timer{At: 0, Fired: 0}, 1, 18446744073709551613, Timer{At: 18446744073709551614, Fired: 1}},
		{Timer{At: 0, Fired: 0}, 1, 18446744073709551614, Timer{At: 18446744073709551615, Fired: 1}},
		{Timer{At: 0, Fired: 0}, 1, 18446744073709551615, Timer{At: 18446744073709551615, Fired: 1}},
		{Timer{At: 0, Fired: 0}, 2, 18446744073709551615, Timer{At: 18446744073709551615, Fired: 2}},
		{Timer{At: 5, Fired: 5}, 1 << 63, 1<<63 - 2, Timer{At: 18446744073709551614, Fired: 1 << 63}},
		{Timer{At: 5, Fired: 5}, 1 << 63, 1<<63 - 1, Timer{At: 18446744073709551615, Fired: 1 << 63}},
		{Timer{At: 5, Fired: 5}, 1 << 63, 1 << 63, Timer{At: 18446744073709551615, Fired: 1 << 63}},
		{Timer{At: 5, Fired: 5}, 1 << 63, 1<<63 + 1, Timer{At: 18446744073709551615, Fired: 1 << 63}},
		{Timer{At: 5, Fired: 5}, 1 << 63, last, Timer{At: 18446744073709551615, Fired: 1 << 63}},
		{Timer{At: 5, Fired: 5}, 1<<63 - 1, 1<<63 - 1, Timer{At: 18446744073709551614, Fired: 1<<63 - 1}},
		{Timer{At: 5, Fired: 5}, 1<<32 - 1, 1, Timer{At: 1 << 32, Fired: 1<<32 - 1}},
		{Timer{At: 5, Fired: 5}, last - 10, 9, Timer{At: 18446744073709551614, Fired: 18446744073709551605}},
		{Timer{At: 5, Fired: 5}, last - 10, 10, Timer{At: 18446744073709551615, Fired: 18446744073709551605}},
		{Timer{At: 5, Fired: 5}, last - 10, 11, Timer{At: 18446744073709551615, Fired: 18446744073709551605}},
		{Timer{At: 5, Fired: 5}, last - 10, last, Timer{At: 18446744073709551615, Fired: 18446744073709551605}},
		{Timer{At: 5, Fired: 5}, last, 0, Timer{At: 18446744073709551615, Fired: 18446744073709551615}},
		{Timer{At: 5, Fired: 5}, last, 1, Timer{At: 18446744073709551615, Fired: 18446744073709551615}},
		{Timer{At: 5, Fired: 5}, last, last, Timer{At: 18446744073709551615, Fired: 18446744073709551615}},
		{Timer{At: last - 1, Fired: last}, last, 7, Timer{At: 18446744073709551615, Fired: 18446744073709551615}},
	} {
		if got, fired := Fire(c.t, c.now, c.draw); got != c.want || !fired {
			t.Errorf("%d: Fire(%v, %d, %d) = %v, %v, want %v", i, c.t, c.now, c.draw, got, fired, c.want)
		}
	}
}

// P8.2: what is handed in is not changed, and the same call answers the same again.
func TestFireKeepsNothing(t *testing.T) {
	for _, one := range timers() {
		for _, now := range []uint64{0, 1, 6, 17, 1 << 32, last - 1, last} {
			was := one
			first, fired := Fire(one, now, 10)
			Due(one, now)
			again, refired := Fire(one, now, 10)
			if one != was || again != first || refired != fired {
				t.Errorf("Fire(%v, %d, 10) = %v, %v, then %v, %v of %v", was, now, first, fired, again, refired, one)
			}
		}
	}
}

// asked: a timer that is asked again and again, and what is told of it by the ticks and the draws alone.
type asked struct {
	timer Timer
	most  uint64
	fired uint64 // when it fired last, or began
	draw  uint64 // with which it fired last; 0 of one that just began
	times int    // so often it fired
}

// ask at a tick, with a draw, and hold the answer against P8.3.
func (a *asked) ask(t *testing.T, now, draw uint64) {
	t.Helper()
	next, fires := Fire(a.timer, now, draw)
	behind := now - a.fired
	if behind > a.most && !fires {
		t.Fatalf("%v, with draws of %d at most, does not fire at %d", a.timer, a.most, now)
	}
	if behind == 0 && fires {
		t.Fatalf("%v fires again at %d", a.timer, now)
	}
	if behind <= a.draw && fires {
		t.Fatalf("%v fires at %d, ahead of the end of %d from %d on", a.timer, now, a.draw, a.fired)
	}
	if behind > a.draw && !fires {
		t.Fatalf("%v does not fire at %d, behind the end of %d from %d on", a.timer, now, a.draw, a.fired)
	}
	a.timer = next
	if fires {
		a.fired, a.draw = now, draw
		a.times++
	}
	if want := (Timer{At: endOf(a.fired, a.draw), Fired: a.fired}); next != want {
		t.Fatalf("asked at %d with %d it is %v, want %v", now, draw, next, want)
	}
}

// draws of most at most, one behind the other: all 0, all most, the one and the other, and some between.
func draws(most uint64) map[string]func(i uint64) uint64 {
	return map[string]func(i uint64) uint64{
		"least":   func(uint64) uint64 { return 0 },
		"most":    func(uint64) uint64 { return most },
		"both":    func(i uint64) uint64 { return i % 2 * most },
		"between": func(i uint64) uint64 { return min(i*11400714819323198485>>33, most) },
		"falling": func(i uint64) uint64 { return most - min(i, most) },
	}
}

// strides from tick to tick: none, one, just to a draw's end and just behind it, and mixed ones.
func strides(most uint64) map[string]func(i uint64) uint64 {
	return map[string]func(i uint64) uint64{
		"none":   func(uint64) uint64 { return 0 },
		"one":    func(uint64) uint64 { return 1 },
		"end":    func(uint64) uint64 { return most },
		"behind": func(uint64) uint64 { return endOf(most, 1) },
		"half":   func(i uint64) uint64 { return most/2 + i%2 },
		"mixed":  func(i uint64) uint64 { return i * 2654435761 >> 3 % 5 },
		"far":    func(i uint64) uint64 { return i % 3 * (last / 40) },
	}
}

// P8.3: asked at ticks that do not fall, from any tick on, the greatest one's neighbours included.
func TestFairness(t *testing.T) {
	for _, most := range []uint64{0, 1, 2, 3, 7, 10, 1000, 1 << 32, last / 2, last - 1, last} {
		for _, began := range []uint64{0, 1, 5, 1<<32 - 3, 1<<63 - 4, last - 1000, last - 20, last - 2, last - 1, last} {
			for _, draw := range draws(most) {
				for _, stride := range strides(most) {
					a := &asked{timer: Begin(began), most: most, fired: began}
					now := began
					for i := range uint64(60) {
						a.ask(t, now, draw(i))
						now = endOf(now, stride(i))
					}
				}
			}
		}
	}
}

// P8.3: asked at each tick, several times, it fires once a draw and one tick, till the ticks end.
func TestFairnessAtEachTick(t *testing.T) {
	for most := range uint64(6) {
		for _, began := range []uint64{0, 100, last - 60} {
			a := &asked{timer: Begin(began), most: most, fired: began}
			for i := range uint64(61) {
				for range 3 {
					a.ask(t, began+i, most)
				}
			}
			// The first time a tick behind its begin, then each time most and one more.
			if want := 1 + 59/int(most+1); a.times != want {
				t.Errorf("with draws of %d, from %d on, it fired %d times, want %d", most, began, a.times, want)
			}
		}
	}
}

// P8.3: behind a draw that ends at the greatest tick, or beyond, it fires no more.
func TestFairnessAtTheEnd(t *testing.T) {
	for _, draw := range []uint64{9, 10, 11, last - 1, last} {
		one, fired := Fire(Begin(0), last-9, draw)
		if !fired || one != (Timer{At: last, Fired: last - 9}) {
			t.Errorf("with %d it is %v, %v", draw, one, fired)
		}
		for now := last - 9; now != 0; now++ {
			if got, again := Fire(one, now, 0); again || got != one {
				t.Errorf("with %d behind it, it fires at %d: %v", draw, now, got)
			}
		}
	}
	one, _ := Fire(Begin(0), last-9, 8)
	if got, again := Fire(one, last, 3); !again || got != (Timer{At: last, Fired: last}) {
		t.Errorf("with 8 behind it, at the greatest tick it is %v, %v", got, again)
	}
}

// The chapter's examples.
func TestExamples(t *testing.T) {
	one := Begin(5)
	if one != (Timer{At: 5, Fired: 5}) || Due(one, 5) || !Due(one, 6) {
		t.Error(one, Due(one, 5), Due(one, 6))
	}
	one, fired := Fire(one, 6, 10)
	if one != (Timer{At: 16, Fired: 6}) || !fired {
		t.Error(one, fired)
	}
	one, fired = Fire(one, 16, 3)
	if one != (Timer{At: 16, Fired: 6}) || fired {
		t.Error(one, fired)
	}
}
