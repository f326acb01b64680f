package noise_test

import (
	"math"
	"slices"
	"testing"

	"gannet/noise"
)

const (
	states = 1 << 18
	top    = 1 << 17
)

// next is Next, bit by bit.
func next(s uint32) uint32 {
	odd := false
	for _, n := range []int{0, 1, 11, 12, 17} {
		if s>>n&1 == 1 {
			odd = !odd
		}
	}
	if s = s % states / 2; odd {
		return s + top
	}
	return s
}

// period is Period, as the chapter tells it.
func period(freq byte) int64 {
	if n := 31 - int64(freq&31); n > 0 {
		return 64 * n
	}
	return 32
}

// round is a state and all behind it, till it comes again.
func round(s uint32) []uint32 {
	l := []uint32{s % states}
	for n := next(s); n != l[0]; n = next(n) {
		l = append(l, n)
	}
	return l
}

// far is the state of a round that is so many steps behind its first one.
func far(l []uint32, n int64) uint32 {
	size := int64(len(l))
	return l[(n%size+size)%size]
}

// model is a noise that is gone on one clock at a time.
type model struct {
	state uint32
	left  int64
	freq  byte
}

// fresh is a new noise's model.
func fresh(freq byte) model { return model{1, period(freq), freq} }

// steps is so many clocks.
func (m *model) steps(n int64) {
	for range n {
		if m.left--; m.left == 0 {
			m.state, m.left = next(m.state), period(m.freq)
		}
	}
}

// is tells whether all that is told of a noise is as the model has it.
func is(x *noise.Noise, m model) bool {
	return x.State() == m.state && x.Left() == m.left && x.Level() == 31*byte(m.state&1)
}

// gone is a noise, and its model, gone on by so many clocks.
func gone(t *testing.T, freq byte, n int64) (*noise.Noise, model) {
	t.Helper()
	x, m := noise.New(freq), fresh(freq)
	x.Go(n)
	if m.steps(n); !is(x, m) {
		t.Fatalf("freq %d, Go(%d): state %#x, %d left", freq, n, x.State(), x.Left())
	}
	return x, m
}

// some is states of many kinds: the least, the greatest, those of one bit, and such as are beyond.
func some() []uint32 {
	l := []uint32{0, 3, 0x155, 0x2AAAA, 0x12345, states - 1, states, states + 1, states + 5, 3*states - 1, math.MaxUint32}
	for n := range 32 {
		l = append(l, 1<<n)
	}
	return l
}

// P13.1: half of it, and the highest bit, if an odd number of those five is set.
func TestNext(t *testing.T) {
	for s, want := range map[uint32]uint32{
		0: 0, 1: top, 2: top + 1, 3: 1, 4: 2, 1 << 10: 1 << 9, 1 << 11: top + 1<<10, 1 << 12: top + 1<<11, 1 << 13: 1 << 12,
		1 << 16: 1 << 15, top: top + 1<<16, top + 1: 1 << 16, 1<<11 + 1<<12: 1<<10 + 1<<11, 7: 3, top + 3: top + 1<<16 + 1, states - 1: states - 1,
	} {
		if got := noise.Next(s); got != want {
			t.Errorf("Next(%#x): %#x, not %#x", s, got, want)
		}
	}
	for n := range 18 {
		want := uint32(1) << n / 2
		if slices.Contains([]int{0, 1, 11, 12, 17}, n) {
			want += top
		}
		if got := noise.Next(1 << n); got != want {
			t.Errorf("Next of bit %d: %#x, not %#x", n, got, want)
		}
	}
}

// P13.1: the state whose Next it is.
func TestBack(t *testing.T) {
	for s, want := range map[uint32]uint32{
		0: 0, 1: 3, 2: 4, 1 << 9: 1 << 10, 1 << 10: 1<<11 + 1, 1 << 11: 1<<12 + 1, 1 << 12: 1 << 13, 1 << 16: top + 1, top: 1, states - 1: states - 1,
	} {
		if got := noise.Back(s); got != want {
			t.Errorf("Back(%#x): %#x, not %#x", s, got, want)
		}
	}
	for n := range 18 {
		if got := noise.Back(1 << n); got >= states || next(got) != 1<<n {
			t.Errorf("Back of bit %d: %#x", n, got)
		}
	}
}

// P13.1, P13.5: each state has one ahead, and one behind, that lead to each other.
func TestNextAndBack(t *testing.T) {
	for s := range uint32(states) {
		n, b := noise.Next(s), noise.Back(s)
		if n != next(s) || n >= states || b >= states || noise.Back(n) != s || noise.Next(b) != s {
			t.Fatalf("%#x: %#x ahead, %#x behind", s, b, n)
		}
	}
}

// P13.1: of numbers of 2^18 and above the states are meant that they are modulo 2^18.
func TestStatesBeyond(t *testing.T) {
	for _, s := range some() {
		for _, more := range []uint32{0, states, 2 * states, 5 * states, 1 << 31, math.MaxUint32 - states + 1} {
			b, in := s+more, s%states
			if noise.Next(b) != next(in) || noise.Back(b) != noise.Back(in) || noise.Back(next(b)) != in || noise.Next(noise.Back(b)) != in {
				t.Errorf("%#x isn't as %#x", b, in)
			}
			for _, n := range []int64{math.MinInt64, -3, -1, 0, 1, 3, math.MaxInt64} {
				if got := noise.Jump(b, n); got != noise.Jump(in, n) || got >= states {
					t.Errorf("Jump(%#x, %d): %#x", b, n, got)
				}
			}
		}
	}
}

// P13.1: as many times Next, or Back, one by one.
func TestJump(t *testing.T) {
	for _, s := range some() {
		ahead, behind := s%states, s%states
		for n := range int64(300) {
			if noise.Jump(s, n) != behind || noise.Jump(s, -n) != ahead {
				t.Fatalf("Jump(%#x, %d): %#x, and back %#x", s, n, noise.Jump(s, n), noise.Jump(s, -n))
			}
			ahead, behind = noise.Back(ahead), next(behind)
		}
	}
}

// P13.1: of many steps, up to the greatest and the least int64, as the round that a state is in comes to.
func TestJumpFar(t *testing.T) {
	for _, s := range some() {
		l := round(s)
		for _, n := range []int64{1000, 4095, 1 << 17, 1<<18 - 1, 1 << 18, 1 << 32, 1<<40 + 12345, 1 << 62, math.MaxInt64 - 1, math.MaxInt64} {
			if got := noise.Jump(s, n); got != far(l, n) {
				t.Errorf("Jump(%#x, %d): %#x, not %#x", s, n, got, far(l, n))
			}
			if got := noise.Jump(s, -n); got != far(l, -n) {
				t.Errorf("Jump(%#x, %d): %#x, not %#x", s, -n, got, far(l, -n))
			}
		}
		if got := noise.Jump(s, math.MinInt64); got != far(l, math.MinInt64) {
			t.Errorf("Jump(%#x, the least): %#x, not %#x", s, got, far(l, math.MinInt64))
		}
	}
}

// P13.1: in two parts it is as at once, and there and back it is where it was.
func TestJumpInParts(t *testing.T) {
	for _, s := range some() {
		for _, n := range []int64{0, 1, 2, 17, 18, 19, 1000, 1 << 40, -1, -2, -18, -1000, -1 << 40} {
			for _, more := range []int64{0, 1, 5, 18, 99999, 1 << 50, -1, -7, -99999, -1 << 50} {
				if got, want := noise.Jump(noise.Jump(s, n), more), noise.Jump(s, n+more); got != want {
					t.Errorf("%#x, by %d and %d: %#x, at once %#x", s, n, more, got, want)
				}
			}
			if got := noise.Jump(noise.Jump(s, n), -n); got != s%states {
				t.Errorf("%#x, by %d and back: %#x", s, n, got)
			}
		}
	}
}

// P13.5: what two states together come to is what each comes to, together.
func TestTogether(t *testing.T) {
	for _, a := range some() {
		for _, b := range some() {
			if noise.Next(a^b) != noise.Next(a)^noise.Next(b) || noise.Back(a^b) != noise.Back(a)^noise.Back(b) {
				t.Errorf("a step of %#x and %#x", a, b)
			}
			for _, n := range []int64{-12345, -1, 0, 1, 7, 1 << 45} {
				if noise.Jump(a^b, n) != noise.Jump(a, n)^noise.Jump(b, n) {
					t.Errorf("%d steps of %#x and %#x", n, a, b)
				}
			}
		}
	}
}

// P13.2: 64 times what the frequency is less than 31; 32, if that is 0.
func TestPeriod(t *testing.T) {
	for freq, want := range map[byte]int{0: 1984, 1: 1920, 15: 1024, 29: 128, 30: 64, 31: 32, 32: 1984, 62: 64, 63: 32, 64: 1984, 128: 1984, 224: 1984, 254: 64, 255: 32} {
		if got := noise.Period(freq); got != want {
			t.Errorf("Period(%d): %d, not %d", freq, got, want)
		}
	}
	for freq := range 256 {
		if got := noise.Period(byte(freq)); int64(got) != period(byte(freq)) {
			t.Errorf("Period(%d): %d", freq, got)
		}
	}
}

// P13.3: a new noise is at state 1, its period being left; the edge of its first step.
func TestNew(t *testing.T) {
	for n := range 256 {
		freq := byte(n)
		x, p := noise.New(freq), period(freq)
		if x == nil || x.State() != 1 || x.Left() != p || x.Level() != 31 {
			t.Fatalf("New(%d): state %#x, %d left", freq, x.State(), x.Left())
		}
		if x.Go(p - 1); x.State() != 1 || x.Left() != 1 || x.Level() != 31 {
			t.Errorf("New(%d), ahead of a step: state %#x, %d left", freq, x.State(), x.Left())
		}
		if x.Go(1); x.State() != top || x.Left() != p || x.Level() != 0 {
			t.Errorf("New(%d), at a step: state %#x, %d left", freq, x.State(), x.Left())
		}
		if x.Go(1); x.State() != top || x.Left() != p-1 {
			t.Errorf("New(%d), behind a step: state %#x, %d left", freq, x.State(), x.Left())
		}
	}
	if noise.New(3) == noise.New(3) {
		t.Error("two new noises are one")
	}
}

// P13.3: another frequency leaves what is left, and holds from the next step on.
func TestSet(t *testing.T) {
	for _, from := range []byte{0, 5, 30, 31, 255} {
		for _, to := range []byte{0, 1, 29, 31, 63, 128} {
			p, q := period(from), period(to)
			for _, n := range []int64{0, 1, p - 1, p, p + 1, 3*p - 1, 3 * p} {
				x, m := gone(t, from, n)
				x.Set(to)
				if m.freq = to; !is(x, m) {
					t.Fatalf("%d, set to %d behind %d: state %#x, %d left", from, to, n, x.State(), x.Left())
				}
				for _, more := range []int64{m.left - 1, 1, 1, q - 2, 1, 1, 5*q + 3} {
					x.Go(more)
					if m.steps(more); !is(x, m) {
						t.Errorf("%d, set to %d behind %d, gone on: state %#x, %d left", from, to, n, x.State(), x.Left())
					}
				}
			}
		}
	}
}

// P13.3: set twice ahead of a step the last one holds; set back nothing is changed.
func TestSetTwice(t *testing.T) {
	x, m := gone(t, 20, 100)
	x.Set(0)
	x.Set(30)
	m.freq = 30
	x.Go(m.left + 500)
	if m.steps(m.left + 500); !is(x, m) {
		t.Errorf("set twice: state %#x, %d left", x.State(), x.Left())
	}
	y, k := gone(t, 20, 100)
	y.Set(0)
	y.Set(20)
	y.Go(5000)
	if k.steps(5000); !is(y, k) {
		t.Errorf("set back: state %#x, %d left", y.State(), y.Left())
	}
}

// P13.3: below 0, at 0, to just ahead of a step, to it, behind it, and by many steps.
func TestGo(t *testing.T) {
	for _, freq := range []byte{0, 7, 29, 30, 31, 32, 95} {
		p := period(freq)
		for _, begun := range []int64{0, 1, p - 1, p, 2*p + 3} {
			for _, n := range []int64{math.MinInt64, -p, -1, 0, 1, p - 2, p - 1, p, p + 1, 2*p - 1, 2 * p, 2*p + 1, 100 * p, 333*p + 5} {
				x, m := gone(t, freq, begun)
				x.Go(n)
				if m.steps(n); !is(x, m) {
					t.Errorf("freq %d, from %d, Go(%d): state %#x, %d left", freq, begun, n, x.State(), x.Left())
				}
			}
		}
	}
}

// P13.3, P4: of the greatest numbers nothing goes round.
func TestGoGreatest(t *testing.T) {
	l := round(1)
	for _, freq := range []byte{0, 1, 13, 30, 31} {
		p := period(freq)
		for _, begun := range []int64{0, 1, 31, p - 1, p, p + 1} {
			for _, less := range []int64{0, 1, 31, p, 1 << 40, 1 << 62} {
				n := math.MaxInt64 - less
				x, _ := gone(t, freq, begun)
				x.Go(n)
				// begun and n, without going round
				all := uint64(begun) + uint64(n)
				want := model{state: far(l, int64(all/uint64(p))), left: p - int64(all%uint64(p))}
				if !is(x, want) {
					t.Errorf("freq %d, from %d, Go(%d): state %#x, not %#x; %d left, not %d", freq, begun, n, x.State(), want.state, x.Left(), want.left)
				}
			}
		}
	}
}

// P13.3: gone on in parts it is as gone on at once.
func TestGoInParts(t *testing.T) {
	for _, freq := range []byte{0, 16, 30, 31} {
		p := period(freq)
		parts := []int64{0, 1, p - 1, p, -5, p + 1, 3, 40*p + 7, 1 << 40, 2, math.MinInt64, 1 << 61, 12}
		for from := range parts {
			x, y, all := noise.New(freq), noise.New(freq), int64(0)
			for _, n := range slices.Concat(parts[from:], parts[:from]) {
				x.Go(n)
				all += max(n, 0)
			}
			if y.Go(all); !is(x, model{state: y.State(), left: y.Left()}) {
				t.Errorf("freq %d, parts from %d on: state %#x, %d left", freq, from, x.State(), x.Left())
			}
		}
	}
}

// P13.4: clock by clock, all the way: what is left, and the level, which is 31 at some states, 0 at others.
func TestAllTheWay(t *testing.T) {
	for _, freq := range []byte{31, 30, 22} {
		x, m, levels := noise.New(freq), fresh(freq), map[byte]int{}
		for n := range 60000 {
			if !is(x, m) {
				t.Fatalf("freq %d, clock %d: state %#x, %d left, level %d", freq, n, x.State(), x.Left(), x.Level())
			}
			levels[x.Level()]++
			x.Go(1)
			m.steps(1)
		}
		if len(levels) != 2 || levels[0] == 0 || levels[31] == 0 {
			t.Errorf("freq %d: levels %v", freq, levels)
		}
	}
}

// P13.4, P5: a clone is alike, another one, and apart, whichever of both goes on, or is set.
func TestClone(t *testing.T) {
	for _, n := range []int64{0, 1, 703, 704, 5000} {
		x, m := gone(t, 20, n)
		c, k := x.Clone(), m
		if c == nil || c == x || !is(c, m) {
			t.Fatalf("a clone behind %d isn't alike, or isn't another one", n)
		}
		c.Set(31)
		k.freq = 31
		c.Go(3333)
		if k.steps(3333); !is(c, k) || !is(x, m) {
			t.Errorf("a clone goes on behind %d, and the first one with it", n)
		}
		x.Go(7777)
		if m.steps(7777); !is(x, m) || !is(c, k) {
			t.Errorf("the first one goes on behind %d, and its clone with it", n)
		}
		x.Set(0)
		m.freq = 0
		c.Go(64)
		k.steps(64)
		x.Go(9000)
		if m.steps(9000); !is(x, m) || !is(c, k) {
			t.Errorf("the first one is set behind %d, and its clone with it", n)
		}
	}
}

// P13.4: what is set, but holds from the next step on alone, is a clone's, too.
func TestCloneOfSet(t *testing.T) {
	x, m := gone(t, 3, 1000)
	x.Set(29)
	m.freq = 29
	c, k := x.Clone(), m
	c.Go(5000)
	if k.steps(5000); !is(c, k) || !is(x, m) {
		t.Errorf("state %#x, %d left", c.State(), c.Left())
	}
}

// P13.4, P1: of nil everything is 0, and nothing happens.
func TestNil(t *testing.T) {
	var x *noise.Noise
	for _, n := range []int64{math.MinInt64, -1, 0, 1, 1984, math.MaxInt64} {
		x.Set(31)
		x.Go(n)
		if !is(x, model{}) || x.Level() != 0 || x.Clone() != nil {
			t.Errorf("a nil noise, gone on by %d", n)
		}
	}
}

// P1: a noise that no call made is as a new one of frequency 0.
func TestUnmade(t *testing.T) {
	for _, n := range []int64{-1, 0, 1, 1983, 1984, 1985, 100000} {
		x, m := &noise.Noise{}, fresh(0)
		if !is(x, m) || !is(x.Clone(), m) {
			t.Fatalf("state %#x, %d left", x.State(), x.Left())
		}
		x.Go(n)
		if m.steps(n); !is(x, m) || !is(x.Clone(), m) {
			t.Errorf("gone on by %d: state %#x, %d left", n, x.State(), x.Left())
		}
		y, k := &noise.Noise{}, fresh(0)
		y.Set(30)
		if k.freq = 30; !is(y, k) {
			t.Errorf("set: state %#x, %d left", y.State(), y.Left())
		}
		y.Go(n)
		if k.steps(n); !is(y, k) {
			t.Errorf("set, and gone on by %d: state %#x, %d left", n, y.State(), y.Left())
		}
	}
	x := &noise.Noise{}
	if x.Go(math.MaxInt64); x.Left() != 1984-math.MaxInt64%1984 {
		t.Errorf("gone on by the greatest number: %d left", x.Left())
	}
}

// P5: noises have nothing to do with one another.
func TestApart(t *testing.T) {
	x, m := gone(t, 25, 4000)
	y, k := gone(t, 11, 10)
	x.Set(0)
	x.Go(1 << 30)
	if !is(y, k) || !is(noise.New(25), fresh(25)) || is(x, m) {
		t.Error("a noise goes on with another one")
	}
}

// The examples of the chapter.
func TestExamples(t *testing.T) {
	if noise.Next(1) != top || noise.Jump(1, 2) != top+1<<16 {
		t.Errorf("%#x, %#x", noise.Next(1), noise.Jump(1, 2))
	}
	if noise.Period(31) != 32 || noise.Period(0) != 1984 {
		t.Errorf("%d, %d", noise.Period(31), noise.Period(0))
	}
}
