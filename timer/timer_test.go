package timer_test

import (
	"math"
	"slices"
	"testing"

	"gannet/timer"
)

// every is 1024 times api.Fast.
const every = 3072

// model is a timer that is gone on one master clock at a time.
type model struct {
	reload, counter byte
	on              bool
	left            int64
}

// fresh is a new timer's model.
func fresh() model { return model{left: every} }

// write changes a register.
func (m *model) write(reg int, b byte) {
	switch {
	case reg == 0:
		m.reload = b & 0x7F
	case reg == 1 && b&1 == 0:
		m.on = false
	case reg == 1 && !m.on:
		m.on, m.counter, m.left = true, m.reload, every
	}
}

// step is one master clock: was it over?
func (m *model) step() bool {
	if !m.on {
		return false
	}
	if m.left--; m.left > 0 {
		return false
	}
	m.left = every
	if m.counter == 0 {
		m.counter = m.reload
		return true
	}
	m.counter--
	return false
}

// steps is so many master clocks: how often was it over?
func (m *model) steps(n int64) int64 {
	over := int64(0)
	for range n {
		if m.step() {
			over++
		}
	}
	return over
}

// until is how many steps lead to where it is over, and whether any do.
func (m model) until() (int64, bool) {
	for n := int64(1); m.on; n++ {
		if m.step() {
			return n, true
		}
	}
	return 0, false
}

// shows tells whether all but Until is as the model has it.
func shows(t *timer.Timer, m model) bool {
	return t.Counter() == m.counter && t.Reload() == m.reload && t.On() == m.on && t.Left() == m.left
}

// is tells whether all that is told of a timer is as the model has it.
func is(t *timer.Timer, m model) bool {
	n, some := t.Until()
	want, any := m.until()
	return shows(t, m) && n == want && some == any
}

// on is a timer that was turned on with a reload, and its model.
func on(reload byte) (*timer.Timer, model) {
	t, m := timer.New(), fresh()
	for reg, b := range []byte{reload, 1} {
		t.Write(reg, b)
		m.write(reg, b)
	}
	return t, m
}

// gone is a timer, and its model, gone on by so many master clocks.
func gone(t *testing.T, reload byte, n int64) (*timer.Timer, model) {
	t.Helper()
	x, m := on(reload)
	if got, want := x.Go(n), m.steps(n); got != want || !shows(x, m) {
		t.Fatalf("reload %d, Go(%d): over %d times, not %d; %d, %d left", reload, n, got, want, x.Counter(), x.Left())
	}
	return x, m
}

// P9.1: a new timer stands still, all of it 0, a tick's master clocks being left.
func TestNew(t *testing.T) {
	x := timer.New()
	if x == nil || x.On() || x.Counter() != 0 || x.Reload() != 0 || x.Left() != 3072 || !is(x, fresh()) {
		t.Errorf("a new timer: %v, %d, %d, %d left", x.On(), x.Counter(), x.Reload(), x.Left())
	}
	if timer.New() == timer.New() {
		t.Error("two new timers are one")
	}
}

// P9.1: reg 0 is reload, modulo 128; nothing else hangs on it.
func TestWriteReload(t *testing.T) {
	for b := range 256 {
		x := timer.New()
		x.Write(0, byte(b))
		if x.Reload() != byte(b%128) || x.Counter() != 0 || x.On() || x.Left() != every {
			t.Errorf("reload written as %d: %d, %d, %v", b, x.Reload(), x.Counter(), x.On())
		}
	}
	for b, want := range map[byte]byte{0: 0, 127: 127, 128: 0, 255: 127} {
		x, _ := on(5)
		x.Go(100)
		if x.Write(0, b); x.Reload() != want || x.Counter() != 5 || !x.On() || x.Left() != every-100 {
			t.Errorf("reload written as %d while it counts: %d, %d, %d left", b, x.Reload(), x.Counter(), x.Left())
		}
	}
}

// P9.1: reg 1 turns it on just if bit 0 is set, whatever the other bits are.
func TestWriteOn(t *testing.T) {
	for b := range 256 {
		x, m := timer.New(), fresh()
		for _, was := range []byte{0, 1} {
			x.Write(0, 9)
			m.write(0, 9)
			x.Write(1, was)
			m.write(1, was)
			if x.Go(50) != m.steps(50) {
				t.Errorf("written as %d: over", was)
			}
			x.Write(1, byte(b))
			m.write(1, byte(b))
			if x.On() != (b%2 == 1) || !shows(x, m) {
				t.Errorf("%d behind %d: %v, %d, %d left", b, was, x.On(), x.Counter(), x.Left())
			}
		}
	}
}

// P9.1: turned on it has reload's ticks ahead, from their beginning on.
func TestTurnOn(t *testing.T) {
	for _, reload := range []byte{0, 1, 2, 126, 127} {
		x, _ := on(reload)
		if !x.On() || x.Counter() != reload || x.Reload() != reload || x.Left() != every {
			t.Errorf("on with %d: %d, %d left", reload, x.Counter(), x.Left())
		}
	}
}

// P9.1: on while it is on already it goes on as it was, with its counter and what is left.
func TestTurnOnAgain(t *testing.T) {
	for _, b := range []byte{1, 3, 255} {
		x, m := gone(t, 5, every*2+7)
		x.Write(0, 9)
		m.write(0, 9)
		if x.Write(1, b); x.Counter() != 3 || x.Left() != every-7 || x.Reload() != 9 || !is(x, m) {
			t.Errorf("on, written as %d: %d, %d left", b, x.Counter(), x.Left())
		}
		if got, want := x.Go(every*4), m.steps(every*4); got != want || !is(x, m) {
			t.Errorf("on, written as %d, and gone on: over %d times", b, got)
		}
	}
}

// P9.1: turned off it stays as it is; turned on again it begins anew.
func TestTurnOff(t *testing.T) {
	x, m := gone(t, 5, every*2+7)
	for range 2 {
		x.Write(1, 0xFE)
		if m.write(1, 0); x.On() || x.Counter() != 3 || x.Left() != every-7 || !is(x, m) {
			t.Errorf("off: %d, %d left", x.Counter(), x.Left())
		}
	}
	x.Write(0, 4)
	m.write(0, 4)
	if x.Go(every*10) != 0 || !is(x, m) {
		t.Error("off, it goes on")
	}
	x.Write(1, 1)
	if m.write(1, 1); !x.On() || x.Counter() != 4 || x.Left() != every || !is(x, m) {
		t.Errorf("on again: %d, %d left", x.Counter(), x.Left())
	}
}

// P9.1: other registers are none, below 0 and above 1.
func TestWriteOther(t *testing.T) {
	for _, reg := range []int{math.MinInt, -256, -2, -1, 2, 3, 4, 8, 256, 257, 1 << 32, 1<<32 + 1, math.MaxInt - 1, math.MaxInt} {
		for _, b := range []byte{0, 1, 127, 128, 255} {
			x := timer.New()
			if x.Write(reg, b); !is(x, fresh()) {
				t.Errorf("register %d of a new one, written as %d", reg, b)
			}
			y, m := gone(t, 3, every+1)
			if y.Write(reg, b); !is(y, m) {
				t.Errorf("register %d of one that counts, written as %d", reg, b)
			}
		}
	}
}

// P9.2: around one tick: not ahead of it, just at it, and behind it.
func TestGoTick(t *testing.T) {
	for _, c := range []struct {
		n, over, left int64
		counter       byte
	}{
		{math.MinInt64, 0, 3072, 1}, {-3072, 0, 3072, 1}, {-1, 0, 3072, 1}, {0, 0, 3072, 1}, {1, 0, 3071, 1},
		{3071, 0, 1, 1}, {3072, 0, 3072, 0}, {3073, 0, 3071, 0}, {6143, 0, 1, 0}, {6144, 1, 3072, 1}, {6145, 1, 3071, 1},
		{9216, 1, 3072, 0}, {12287, 1, 1, 0}, {12288, 2, 3072, 1},
	} {
		x, m := on(1)
		over := x.Go(c.n)
		if over != c.over || x.Left() != c.left || x.Counter() != c.counter || x.Reload() != 1 || !x.On() {
			t.Errorf("Go(%d): over %d times, %d, %d left", c.n, over, x.Counter(), x.Left())
		}
		if m.steps(c.n) != over || !is(x, m) {
			t.Errorf("Go(%d): not as step by step", c.n)
		}
	}
}

// P9.2: a number below 0 is as 0, too, where a tick is near.
func TestGoBelow(t *testing.T) {
	for _, n := range []int64{0, -1, -3071, -3072, -3073, math.MinInt64} {
		x, m := gone(t, 0, every*3-1)
		if x.Go(n) != 0 || !is(x, m) {
			t.Errorf("Go(%d): %d, %d left", n, x.Counter(), x.Left())
		}
	}
}

// P9.2: a counter of 0 at the next tick is reload then, even if that is 0; each such tick is one that it is over at.
func TestGoOver(t *testing.T) {
	for reload := range byte(128) {
		x, _ := on(reload)
		for n := range 3 {
			round := every * (int64(reload) + 1)
			if x.Go(round-1) != 0 || x.Counter() != 0 || x.Left() != 1 {
				t.Fatalf("reload %d, round %d: over early, or %d, %d left", reload, n, x.Counter(), x.Left())
			}
			if x.Go(1) != 1 || x.Counter() != reload || x.Left() != every {
				t.Fatalf("reload %d, round %d: not over, or %d, %d left", reload, n, x.Counter(), x.Left())
			}
		}
	}
}

// P9.2: many rounds at once come to what they come to one by one.
func TestGoRounds(t *testing.T) {
	for _, reload := range []byte{0, 1, 2, 6, 127} {
		for _, begun := range []int64{0, 1, every - 1, every, every + 5, every*3 + 3071} {
			for _, n := range []int64{every * 2, every*3 - 1, every * 7, every*7 + 100, every * 200, every*300 + 3071} {
				x, m := gone(t, reload, begun)
				if got, want := x.Go(n), m.steps(n); got != want || !shows(x, m) {
					t.Errorf("reload %d, from %d, Go(%d): over %d times, not %d", reload, begun, n, got, want)
				}
			}
		}
	}
}

// P9.2, P4: of the greatest numbers, too, nothing goes round.
func TestGoGreatest(t *testing.T) {
	for _, reload := range []int64{0, 1, 2, 63, 126, 127} {
		for _, begun := range []int64{0, 1, 100, 3071, 3072, 3073} {
			for _, less := range []int64{0, 1, 2, 3071, 3072, 1 << 40, 1 << 61} {
				n := math.MaxInt64 - less
				x, _ := gone(t, byte(reload), begun)
				// begun and n, without going round
				all := uint64(begun) + uint64(n)
				ticks := int64(all / every)
				over := ticks/(reload+1) - begun/every/(reload+1)
				counter, left := reload-ticks%(reload+1), every-int64(all%every)
				if got := x.Go(n); got != over || int64(x.Counter()) != counter || x.Left() != left || !x.On() {
					t.Errorf("reload %d, from %d, Go(%d): over %d times, not %d; %d, %d left", reload, begun, n, got, over, x.Counter(), x.Left())
				}
			}
		}
	}
}

// P9.2: a reload that is written while it counts is that of the next time it is over, below the counter or above it.
func TestReloadWhileItCounts(t *testing.T) {
	for _, first := range []byte{0, 1, 5, 20, 127} {
		for _, then := range []byte{0, 1, 3, 5, 6, 19, 127} {
			for _, n := range []int64{0, every, every * 5, every*5 + 1, every * 6, every * 7, every*300 + 9} {
				x, m := gone(t, first, 1000)
				x.Write(0, then)
				if m.write(0, then); !is(x, m) {
					t.Fatalf("%d, written as %d: it counts otherwise", first, then)
				}
				if got, want := x.Go(n), m.steps(n); got != want || !is(x, m) {
					t.Errorf("%d, written as %d, Go(%d): over %d times, not %d; %d", first, then, n, got, want, x.Counter())
				}
			}
		}
	}
}

// P9.2, P4: a reload below the counter, and many rounds behind it at once.
func TestReloadBelowGreatest(t *testing.T) {
	for _, then := range []int64{0, 1, 2, 50, 126} {
		x, _ := on(127)
		x.Write(0, byte(then))
		ticks := int64(math.MaxInt64 / every)
		over, more := 1+(ticks-128)/(then+1), (ticks-128)%(then+1)
		if got := x.Go(math.MaxInt64); got != over || int64(x.Counter()) != then-more || x.Left() != every-math.MaxInt64%every {
			t.Errorf("127, written as %d: over %d times, not %d; %d, %d left", then, got, over, x.Counter(), x.Left())
		}
	}
}

// P9.2: of a timer that stands still nothing goes by.
func TestGoStill(t *testing.T) {
	for _, n := range []int64{math.MinInt64, -1, 0, 1, 3071, 3072, 3073, every * 1000, math.MaxInt64} {
		x, m := timer.New(), fresh()
		x.Write(0, 3)
		m.write(0, 3)
		if x.Go(n) != 0 || !is(x, m) {
			t.Errorf("a new one: Go(%d)", n)
		}
		y, m := gone(t, 3, every*4-1)
		y.Write(1, 0)
		m.write(1, 0)
		if y.Go(n) != 0 || !is(y, m) {
			t.Errorf("one that was turned off: Go(%d)", n)
		}
	}
}

// P9.3: how many are left till a tick, ahead of it, just at it, and behind it.
func TestLeft(t *testing.T) {
	for _, reload := range []byte{0, 1, 127} {
		for n, left := range map[int64]int64{0: 3072, 1: 3071, 1000: 2072, 3071: 1, 3072: 3072, 3073: 3071, 6143: 1, 6144: 3072, 6145: 3071} {
			x, _ := on(reload)
			if x.Go(n); x.Left() != left {
				t.Errorf("reload %d, behind %d: %d left, not %d", reload, n, x.Left(), left)
			}
		}
	}
}

// P9.3: how many are left till it is over, ahead of a tick, just at one, and behind it; gone on by them it is over, and not ahead.
func TestUntil(t *testing.T) {
	for _, reload := range []byte{0, 1, 2, 127} {
		round := every * (int64(reload) + 1)
		for _, n := range []int64{0, 1, every - 1, every, every + 1, round - 1, round, round + 1, round*3 - 1, round * 3} {
			x, m := gone(t, reload, n)
			until, some := x.Until()
			if until != round-n%round || !some || !is(x, m) {
				t.Errorf("reload %d, behind %d: %d, %v", reload, n, until, some)
			}
			if x.Clone().Go(until-1) != 0 || x.Go(until) != 1 {
				t.Errorf("reload %d, behind %d: not over just at %d", reload, n, until)
			}
		}
	}
}

// P9.3: a reload that is written while it counts doesn't change when it is over next.
func TestUntilOfReload(t *testing.T) {
	x, _ := gone(t, 5, every+10)
	x.Write(0, 100)
	if n, some := x.Until(); n != every*5-10 || !some {
		t.Errorf("reload written: %d, %v", n, some)
	}
	x.Go(every*5 - 10)
	if n, some := x.Until(); n != every*101 || !some {
		t.Errorf("reload written, and over: %d, %v", n, some)
	}
}

// P9.3: one that stands still is never over.
func TestUntilStill(t *testing.T) {
	x := timer.New()
	for _, reload := range []byte{0, 5} {
		x.Write(0, reload)
		if n, some := x.Until(); n != 0 || some {
			t.Errorf("a new one: %d, %v", n, some)
		}
	}
	y, _ := gone(t, 5, every*2+1)
	y.Write(1, 0)
	if n, some := y.Until(); n != 0 || some {
		t.Errorf("one that was turned off: %d, %v", n, some)
	}
}

// P9.4, P5: a clone is alike, another one, and apart, whichever of both goes on, or is written.
func TestClone(t *testing.T) {
	for _, n := range []int64{0, 1, every - 1, every, every*3 + 7, every * 50} {
		x, m := gone(t, 4, n)
		c, k := x.Clone(), m
		if c == nil || c == x || !is(c, m) || !is(x, m) {
			t.Fatalf("a clone behind %d isn't alike, or isn't another one", n)
		}
		if c.Go(every*9+1) != k.steps(every*9+1) || !is(c, k) || !is(x, m) {
			t.Errorf("a clone goes on behind %d, and the first one with it", n)
		}
		c.Write(0, 77)
		c.Write(1, 0)
		k.write(0, 77)
		if k.write(1, 0); !is(c, k) || !is(x, m) {
			t.Errorf("a clone is written behind %d, and the first one with it", n)
		}
		if x.Go(every*6) != m.steps(every*6) || !is(x, m) || !is(c, k) {
			t.Errorf("the first one goes on behind %d, and its clone with it", n)
		}
		x.Write(0, 1)
		if m.write(0, 1); !is(x, m) || !is(c, k) {
			t.Errorf("the first one is written behind %d, and its clone with it", n)
		}
	}
	if c := timer.New().Clone(); !is(c, fresh()) {
		t.Error("a new one's clone")
	}
}

// P5: timers have nothing to do with one another.
func TestApart(t *testing.T) {
	x, m := gone(t, 3, every+9)
	y, k := gone(t, 9, 5)
	x.Write(0, 100)
	m.write(0, 100)
	if x.Go(every*8) != m.steps(every*8) || !is(x, m) || !is(y, k) || !is(timer.New(), fresh()) {
		t.Error("a timer goes on with another one")
	}
}

// P9.4, P1: of nil everything is 0, false, nil, and nothing happens.
func TestNil(t *testing.T) {
	var x *timer.Timer
	for reg := -1; reg < 3; reg++ {
		x.Write(reg, 255)
		for _, n := range []int64{math.MinInt64, -1, 0, 1, every, math.MaxInt64} {
			if x.Go(n) != 0 || !is(x, model{}) {
				t.Errorf("a nil timer, gone on by %d", n)
			}
		}
	}
	if x.Clone() != nil {
		t.Error("the clone of a nil timer")
	}
}

// P1: a timer that no call made is as a new one.
func TestUnmade(t *testing.T) {
	x, m := &timer.Timer{}, fresh()
	if !is(x, m) || x.Go(math.MaxInt64) != 0 || !is(x, m) || !is(x.Clone(), m) || x.Clone() == x {
		t.Error("a timer that no call made")
	}
	x.Write(0, 2)
	x.Write(1, 1)
	m.write(0, 2)
	m.write(1, 1)
	if !is(x, m) || x.Go(every*10+5) != m.steps(every*10+5) || !is(x, m) || !is(x.Clone(), m) {
		t.Error("a timer that no call made, turned on")
	}
	still := &timer.Timer{}
	still.Write(1, 1)
	if n, some := still.Until(); n != every || !some || still.Go(every) != 1 {
		t.Error("a timer that no call made, turned on at once")
	}
}

// P9.5: it is over each (reload + 1) ticks.
func TestOverEach(t *testing.T) {
	for reload := range int64(128) {
		for _, ticks := range []int64{0, 1, reload, reload + 1, reload + 2, 1000, 1 << 20, 1 << 50} {
			x, _ := on(byte(reload))
			if got := x.Go(ticks * every); got != ticks/(reload+1) {
				t.Errorf("reload %d, %d ticks: over %d times", reload, ticks, got)
			}
		}
	}
}

// P9.5: gone on in parts it is as gone on at once, and over as often.
func TestParts(t *testing.T) {
	parts := []int64{0, 1, 3071, 3072, 3073, -5, 6144, 9215, 7, every*40 + 1, every * 1000, 12, 3, 24}
	for _, reload := range []byte{0, 1, 2, 5, 127} {
		for from := range parts {
			x, _ := on(reload)
			at, over, all := x.Clone(), int64(0), int64(0)
			for _, n := range slices.Concat(parts[from:], parts[:from]) {
				over += x.Go(n)
				all += max(n, 0)
			}
			if got := at.Go(all); got != over || !shows(x, model{reload, at.Counter(), true, at.Left()}) {
				t.Errorf("reload %d, parts from %d on: over %d times, at once %d times", reload, from, over, got)
			}
		}
	}
}

// P9.1, P9.2, P9.5: whatever is written and however it goes on, it is as it is master clock by master clock.
func TestAsStepByStep(t *testing.T) {
	lengths := []int64{0, 1, 3, 12, 700, 3071, 3072, 3073, 5000, every * 4, every*9 + 31}
	x, m := timer.New(), fresh()
	n := uint32(1)
	for i := range 3000 {
		n = n*1664525 + 1013904223
		if n>>30 == 0 {
			reg, b := int(n>>8%4)-1, byte(n>>16)%12
			x.Write(reg, b)
			m.write(reg, b)
		}
		by := lengths[n>>20%uint32(len(lengths))]
		if got, want := x.Go(by), m.steps(by); got != want || !shows(x, m) {
			t.Fatalf("step %d, Go(%d): over %d times, not %d", i, by, got, want)
		}
	}
}

// The example of the chapter.
func TestExample(t *testing.T) {
	x := timer.New()
	x.Write(0, 1)
	x.Write(1, 1)
	if n := x.Go(6144); n != 1 || x.Counter() != 1 {
		t.Errorf("Go(6144): over %d times, counter %d", n, x.Counter())
	}
	y := timer.New()
	y.Write(0, 1)
	y.Write(1, 1)
	if n := y.Go(6143); n != 0 || y.Counter() != 0 || y.Left() != 1 {
		t.Errorf("Go(6143): over %d times, counter %d, %d left", n, y.Counter(), y.Left())
	}
}
