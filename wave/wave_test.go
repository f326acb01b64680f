package wave_test

import (
	"math"
	"slices"
	"testing"

	"gannet/noise"
	"gannet/wave"
)

// most is how many clocks go by at once, at the most.
const most = 1 << 40

// model is a channel that is gone on one clock at a time.
type model struct {
	frequency, bend, place int
	control, balance, told byte
	wave                   [32]byte
	noisy                  bool
	left                   int64
	state                  uint32
	freq                   byte
	rest                   int64
}

// fresh is a new channel's model.
func fresh() model { return model{left: 4096, state: 1, rest: 1984} }

// write changes a register.
func (m *model) write(reg int, b byte) {
	switch reg {
	case 2:
		m.frequency = m.frequency/256*256 + int(b)
	case 3:
		m.frequency = m.frequency%256 + int(b&15)*256
	case 4:
		if m.control = b; b&0xC0 == 0x40 {
			m.place = 0
		}
	case 5:
		m.balance = b
	case 6:
		if m.control&0x40 != 0 {
			m.told = b & 31
		} else {
			m.wave[m.place] = b & 31
			m.place = (m.place + 1) & 31
		}
	case 7:
		m.noisy, m.freq = b > 127, b&31
	}
}

// period is how many clocks a step takes.
func (m *model) period() int64 {
	n := (m.frequency + m.bend) & 0xFFF
	if n == 0 {
		n = 4096
	}
	return int64(n)
}

// clock is one clock.
func (m *model) clock() {
	if m.noisy {
		if m.rest--; m.rest == 0 {
			m.state, m.rest = noise.Next(m.state), int64(noise.Period(m.freq))
		}
	}
	if m.control&0xC0 == 0x80 {
		if m.left--; m.left == 0 {
			m.place, m.left = (m.place+1)&31, m.period()
		}
	}
}

// steps is so many clocks.
func (m *model) steps(n int64) {
	for range n {
		m.clock()
	}
}

// level is how high it is.
func (m *model) level() byte {
	switch {
	case m.control < 0x80:
		return 0
	case m.control&0x40 != 0:
		return m.told
	case m.noisy:
		return byte(m.state&1) * 31
	}
	return m.wave[m.place]
}

// is tells whether all that is told of a channel, and of the noise within, is as the model has it.
func is(c *wave.Channel, m model) bool {
	upper, lower := c.Balance()
	heard := c.Level() == m.level() && c.On() == (m.control > 127) && c.Volume() == m.control&31
	sides := upper == m.balance>>4 && lower == m.balance&15
	goes := int64(c.Period()) == m.period() && c.Until() == m.left && c.Place() == m.place && c.Wave() == m.wave
	return heard && sides && goes && c.State() == m.state && c.Left() == m.rest
}

// set is a register, and what is written to it.
type set struct {
	reg int
	b   byte
}

// at is what is written for a frequency.
func at(frequency int) []set { return []set{{2, byte(frequency)}, {3, byte(frequency >> 8)}} }

// write is all that is written, one behind the other, to a channel and to its model.
func write(c *wave.Channel, m *model, l ...set) {
	for _, w := range l {
		c.Write(w.reg, w.b)
		m.write(w.reg, w.b)
	}
}

// made is a channel to which was written, and its model.
func made(t *testing.T, l ...set) (*wave.Channel, model) {
	t.Helper()
	c, m := wave.New(), fresh()
	if write(c, &m, l...); !is(c, m) {
		t.Fatalf("%v: place %d, %d left, level %d", l, c.Place(), c.Until(), c.Level())
	}
	return c, m
}

// heap is what is written for a wave whose levels are unlike their neighbours'; its place is 0 then.
func heap() []set {
	var l []set
	for n := range 32 {
		l = append(l, set{6, byte(n*7+3) & 31})
	}
	return l
}

// kinds is what is written for a channel that is off, on, told, told but off, makes noise, and makes noise but is told, or off.
func kinds() map[string][]set {
	return map[string][]set{
		"off":          {{4, 0x1F}},
		"on":           {{4, 0x9F}},
		"told":         {{4, 0xDF}, {6, 21}},
		"told, off":    {{4, 0x5F}, {6, 21}},
		"noise":        {{7, 0x9E}, {4, 0x9F}},
		"noise, told":  {{7, 0x9E}, {4, 0xDF}, {6, 21}},
		"noise, off":   {{7, 0x9E}, {4, 0x1F}},
		"noise behind": {{4, 0x9F}, {7, 0x9E}, {7, 0x1E}},
	}
}

// P14.1: a new channel: all of it 0, the longest period being left, its noise at state 1.
func TestNew(t *testing.T) {
	c := wave.New()
	upper, lower := c.Balance()
	if c.On() || c.Level() != 0 || c.Volume() != 0 || upper != 0 || lower != 0 || c.Wave() != [32]byte{} || c.Place() != 0 {
		t.Error("a new channel isn't 0")
	}
	if c.Period() != 4096 || c.Until() != 4096 || c.State() != 1 || c.Left() != 1984 || !is(c, fresh()) {
		t.Errorf("a new channel: %d left, noise %#x, %d left", c.Until(), c.State(), c.Left())
	}
	if wave.New() == wave.New() {
		t.Error("two new channels are one")
	}
}

// P14.1: regs 2 and 3 are the frequency's low byte and its upper four bits, each without the other; what is left stays.
func TestWriteFrequency(t *testing.T) {
	for _, c := range []struct {
		l    []set
		want int
	}{
		{[]set{{2, 0}}, 4096}, {[]set{{2, 1}}, 1}, {[]set{{2, 127}}, 127}, {[]set{{2, 255}}, 255},
		{[]set{{3, 0}}, 4096}, {[]set{{3, 1}}, 256}, {[]set{{3, 15}}, 3840}, {[]set{{3, 16}}, 4096}, {[]set{{3, 0xA7}}, 0x700}, {[]set{{3, 255}}, 3840},
		{[]set{{2, 0x34}, {3, 0x12}}, 0x234}, {[]set{{3, 0x12}, {2, 0x34}}, 0x234}, {[]set{{2, 255}, {3, 255}}, 4095},
		{[]set{{2, 255}, {3, 255}, {2, 0}}, 3840}, {[]set{{2, 255}, {3, 255}, {3, 0xF0}}, 255}, {[]set{{2, 255}, {3, 255}, {3, 0}, {2, 0}}, 4096},
	} {
		if x, _ := made(t, c.l...); x.Period() != c.want || x.Until() != 4096 {
			t.Errorf("%v: period %d, not %d; %d left", c.l, x.Period(), c.want, x.Until())
		}
	}
}

// P14.1, P14.3: reg 4 is the control: whether it is on, and its volume.
func TestWriteControl(t *testing.T) {
	for b := range 256 {
		c, _ := made(t, set{4, byte(b)})
		if c.On() != (b >= 128) || c.Volume() != byte(b%32) {
			t.Errorf("%d: on %v, volume %d", b, c.On(), c.Volume())
		}
		c, m := made(t, append(heap(), set{4, 0xFF}, set{5, 0x5A}, set{4, byte(b)})...)
		if c.On() != (b >= 128) || c.Volume() != byte(b%32) || !is(c, m) {
			t.Errorf("%d behind others: on %v, volume %d", b, c.On(), c.Volume())
		}
	}
}

// P14.1: the place is 0 where bit 6 of what is written is set and bit 7 isn't; else it stays, whatever was ahead.
func TestWriteControlPlace(t *testing.T) {
	for b := range 256 {
		for _, ahead := range []byte{0x00, 0x3F, 0x80, 0x9F, 0xC0} {
			c, _ := made(t, set{6, 1}, set{6, 2}, set{6, 3}, set{4, ahead})
			want := 3
			if c.Write(4, byte(b)); b/64 == 1 {
				want = 0
			}
			if c.Place() != want {
				t.Errorf("%#x behind %#x: place %d, not %d", b, ahead, c.Place(), want)
			}
		}
	}
}

// P14.1, P14.3: reg 5 is the balance.
func TestWriteBalance(t *testing.T) {
	for b := range 256 {
		c, _ := made(t, set{5, 0xA5}, set{5, byte(b)})
		if upper, lower := c.Balance(); int(upper) != b/16 || int(lower) != b%16 {
			t.Errorf("%#x: %d, %d", b, upper, lower)
		}
	}
}

// P14.1: reg 6 with bit 6 of the control clear is the wave's level at the place; the place goes on, around the wave's end; on or off.
func TestWriteWave(t *testing.T) {
	for _, control := range []byte{0x00, 0x1F, 0x80, 0xBF} {
		c, m := made(t, set{4, control})
		for n := range 100 {
			b := byte(n*37 + 5)
			write(c, &m, set{6, b})
			if c.Wave()[n%32] != b%32 || c.Place() != (n+1)%32 || !is(c, m) {
				t.Fatalf("control %#x, level %d: place %d, %v", control, n, c.Place(), c.Wave())
			}
		}
	}
	for _, b := range []byte{0, 1, 31, 32, 33, 127, 128, 224, 255} {
		if c, _ := made(t, set{6, 9}, set{6, b}); c.Wave() != [32]byte{9, b % 32} || c.Place() != 2 {
			t.Errorf("%d: %v, place %d", b, c.Wave(), c.Place())
		}
	}
}

// P14.1: reg 6 with bit 6 of the control set is the told level; the wave and the place stay.
func TestWriteTold(t *testing.T) {
	for b := range 256 {
		c, _ := made(t, append(heap(), set{6, 1}, set{6, 2}, set{4, 0xC0}, set{6, byte(b)})...)
		if c.Level() != byte(b%32) || c.Place() != 2 || c.Wave()[2] != 17 {
			t.Errorf("%d told: level %d, place %d", b, c.Level(), c.Place())
		}
		c, m := made(t, append(heap(), set{4, 0x40}, set{6, byte(b)})...)
		if c.Level() != 0 || c.Place() != 0 {
			t.Errorf("%d told while it is off: level %d, place %d", b, c.Level(), c.Place())
		}
		if write(c, &m, set{4, 0xC1}); c.Level() != byte(b%32) || !is(c, m) {
			t.Errorf("%d told while it was off: level %d", b, c.Level())
		}
	}
}

// P14.1: what was told stays while the wave is written, and the other way round.
func TestWriteToldAndWave(t *testing.T) {
	c, m := made(t, set{4, 0xC0}, set{6, 30}, set{4, 0x80}, set{6, 5}, set{6, 6})
	if c.Wave() != [32]byte{5, 6} || c.Place() != 2 || c.Level() != 0 {
		t.Errorf("the wave: %v, place %d, level %d", c.Wave(), c.Place(), c.Level())
	}
	if write(c, &m, set{4, 0xC0}); c.Level() != 30 || !is(c, m) {
		t.Errorf("told: level %d", c.Level())
	}
}

// P14.1: reg 7 is whether it makes noise, and the noise's frequency, which is set either way.
func TestWriteNoise(t *testing.T) {
	for b := range 256 {
		c, m := made(t, set{6, 7}, set{4, 0x40}, set{4, 0x80}, set{7, byte(b)})
		want := byte(7)
		if b >= 128 {
			want = 31
		}
		if c.Level() != want {
			t.Errorf("%#x: level %d, not %d", b, c.Level(), want)
		}
		// What is set while it makes no noise holds once it does.
		write(c, &m, set{7, byte(b)})
		x := noise.New(0)
		x.Set(byte(b))
		if b >= 128 {
			x.Go(5000)
		}
		c.Go(5000)
		if m.steps(5000); c.State() != x.State() || c.Left() != x.Left() || !is(c, m) {
			t.Errorf("%#x, gone on: noise %#x, %d left", b, c.State(), c.Left())
		}
	}
}

// P14.1: regs below 2 and above 7 are none.
func TestWriteOther(t *testing.T) {
	for _, reg := range []int{math.MinInt, -254, -2, -1, 0, 1, 8, 9, 10, 15, 18, 258, 1<<32 + 2, math.MaxInt} {
		for _, b := range []byte{0, 1, 0x40, 0x9F, 255} {
			c, m := made(t)
			if c.Write(reg, b); !is(c, m) {
				t.Errorf("reg %d of a new one, written as %d", reg, b)
			}
			c, m = made(t, append(heap(), set{2, 99}, set{5, 0x3C}, set{7, 0x85}, set{6, 3}, set{4, 0x9F})...)
			if c.Write(reg, b); !is(c, m) {
				t.Errorf("reg %d of one that is on, written as %d", reg, b)
			}
		}
	}
}

// P14.1, P14.2: frequency and bend, modulo 4096, where they come to 0, below 0, to 4096 and above; bends beyond 4096 are held.
func TestBend(t *testing.T) {
	for _, c := range []struct{ frequency, bend, want int }{
		{0, 0, 4096}, {0, 1, 1}, {0, -1, 4095}, {0, 4095, 4095}, {0, 4096, 4096}, {0, -4095, 1}, {0, -4096, 4096},
		{5, -5, 4096}, {5, -6, 4095}, {5, -4, 1}, {5, 4091, 4096}, {5, 4092, 1}, {5, 4096, 5}, {5, -4096, 5},
		{4095, 0, 4095}, {4095, 1, 4096}, {4095, 2, 1}, {4095, 4095, 4094}, {4095, 4096, 4095}, {4095, -4095, 4096}, {4095, -4096, 4095},
		{5, 4097, 5}, {5, -4097, 5}, {100, 5000, 100}, {100, -5000, 100}, {7, 1 << 40, 7}, {7, math.MaxInt, 7}, {7, math.MinInt, 7}, {7, math.MinInt + 1, 7},
	} {
		x, m := made(t, at(c.frequency)...)
		x.Bend(c.bend)
		if m.bend = min(max(c.bend, -4096), 4096); x.Period() != c.want || x.Until() != 4096 || !is(x, m) {
			t.Errorf("frequency %d, bent by %d: %d, not %d; %d left", c.frequency, c.bend, x.Period(), c.want, x.Until())
		}
		y := wave.New()
		y.Bend(c.bend)
		for _, w := range at(c.frequency) {
			y.Write(w.reg, w.b)
		}
		if y.Period() != c.want {
			t.Errorf("bent by %d, frequency %d: %d, not %d", c.bend, c.frequency, y.Period(), c.want)
		}
		if x.Bend(0); c.frequency > 0 && x.Period() != c.frequency {
			t.Errorf("frequency %d, bent by %d and back: %d", c.frequency, c.bend, x.Period())
		}
	}
}

// P14.2: what is left stays where frequency or bend change; from the next step on the new period holds.
func TestPeriodFromNextStep(t *testing.T) {
	c, m := made(t, append(heap(), set{2, 100}, set{4, 0x9F})...)
	for _, n := range []int64{4096, 30} {
		c.Go(n)
		m.steps(n)
	}
	write(c, &m, at(1000)...)
	c.Bend(-990)
	if m.bend = -990; c.Until() != 70 || c.Period() != 10 || c.Place() != 1 || !is(c, m) {
		t.Fatalf("place %d, %d left, period %d", c.Place(), c.Until(), c.Period())
	}
	if c.Go(69); c.Place() != 1 || c.Until() != 1 {
		t.Errorf("ahead of the step: place %d, %d left", c.Place(), c.Until())
	}
	if c.Go(1); c.Place() != 2 || c.Until() != 10 {
		t.Errorf("at the step: place %d, %d left", c.Place(), c.Until())
	}
	if c.Go(11); c.Place() != 3 || c.Until() != 9 {
		t.Errorf("behind the next one: place %d, %d left", c.Place(), c.Until())
	}
	m.steps(70 + 11)
	if !is(c, m) {
		t.Errorf("place %d, %d left", c.Place(), c.Until())
	}
}

// P14.2: below 0, by 0, to just ahead of a step, to it, and behind it, for channels of all kinds.
func TestGo(t *testing.T) {
	for name, l := range kinds() {
		for _, frequency := range []int{0, 1, 2, 37, 64, 4095} {
			c, m := made(t, slices.Concat(heap(), at(frequency), l)...)
			for _, begun := range []int64{0, 4095, 1, 63, 5000} {
				c.Go(begun)
				if m.steps(begun); !is(c, m) {
					t.Fatalf("%s, frequency %d, from %d on: place %d, %d left", name, frequency, begun, c.Place(), c.Until())
				}
				p := m.period()
				for _, n := range []int64{math.MinInt64, -p, -1, 0, 1, m.left - 1, m.left, m.left + 1, m.left + p - 1, m.left + p, m.left + p + 1, m.rest - 1, m.rest, m.rest + 1, 9999} {
					d, k := c.Clone(), m
					d.Go(n)
					if k.steps(n); !is(d, k) {
						t.Errorf("%s, frequency %d, Go(%d): place %d, not %d; %d left, not %d", name, frequency, n, d.Place(), k.place, d.Until(), k.left)
					}
				}
			}
		}
	}
}

// P14.2: only one that is on and isn't told goes on; only one that makes noise has a noise that does, told, off, or not.
func TestGoOrStay(t *testing.T) {
	goes := map[string][2]bool{
		"off": {false, false}, "on": {true, false}, "told": {false, false}, "told, off": {false, false},
		"noise": {true, true}, "noise, told": {false, true}, "noise, off": {false, true}, "noise behind": {true, false},
	}
	for name, l := range kinds() {
		c, _ := made(t, slices.Concat(heap(), at(10), l)...)
		c.Go(4100)
		moved := [2]bool{c.Place() == 1 && c.Until() == 6, c.State() != 1 && c.Left() != 1984}
		still := [2]bool{c.Place() == 0 && c.Until() == 4096, c.State() == 1 && c.Left() == 1984}
		for i, want := range goes[name] {
			if moved[i] != want || still[i] == want {
				t.Errorf("%s: place %d, %d left; noise %#x, %d left", name, c.Place(), c.Until(), c.State(), c.Left())
			}
		}
	}
}

// P14.2, P4: by 2^40 and less they are reckoned at once; more counts as 2^40.
func TestGoMost(t *testing.T) {
	for _, p := range []int64{1, 2, 3, 37, 1000, 4095} {
		for _, n := range []int64{most - 1, most, most + 1, most + 37, 1 << 62, math.MaxInt64} {
			c, _ := made(t, slices.Concat(heap(), at(int(p)), []set{{7, 0x9D}, {4, 0x80}})...)
			c.Go(n)
			by := min(n, most)
			x := noise.New(0)
			x.Set(0x9D)
			x.Go(by)
			place, left := (1+(by-4096)/p)%32, p-(by-4096)%p
			if int64(c.Place()) != place || c.Until() != left || c.State() != x.State() || c.Left() != x.Left() {
				t.Errorf("period %d, Go(%d): place %d, not %d; %d left, not %d; noise %#x, not %#x", p, n, c.Place(), place, c.Until(), left, c.State(), x.State())
			}
		}
	}
	for _, name := range []string{"off", "told", "told, off"} {
		c, m := made(t, slices.Concat(heap(), kinds()[name])...)
		if c.Go(math.MaxInt64); !is(c, m) {
			t.Errorf("%s, gone on by the greatest number: place %d", name, c.Place())
		}
	}
}

// P14.2: gone on in parts it is as gone on at once.
func TestGoInParts(t *testing.T) {
	parts := []int64{0, 1, 4095, 4096, -7, 4097, 3, 64, 1 << 30, 2, math.MinInt64, 12345, 1 << 38}
	for name, l := range kinds() {
		for _, frequency := range []int{0, 1, 5, 999} {
			for from := range parts {
				c, _ := made(t, slices.Concat(heap(), at(frequency), l)...)
				d, all := c.Clone(), int64(0)
				for _, n := range slices.Concat(parts[from:], parts[:from]) {
					c.Go(n)
					all += max(n, 0)
				}
				if d.Go(all); c.Place() != d.Place() || c.Until() != d.Until() || c.State() != d.State() || c.Left() != d.Left() {
					t.Errorf("%s, frequency %d, parts from %d on: place %d, at once %d", name, frequency, from, c.Place(), d.Place())
				}
			}
		}
	}
}

// P14.2: clock by clock, all the way: how many are left till a step, and where it is.
func TestUntil(t *testing.T) {
	for name, l := range kinds() {
		c, m := made(t, slices.Concat(heap(), at(3), l)...)
		for n := range 10000 {
			if !is(c, m) {
				t.Fatalf("%s, clock %d: place %d, %d left", name, n, c.Place(), c.Until())
			}
			c.Go(1)
			m.clock()
		}
	}
	c, _ := made(t, set{2, 250}, set{4, 0x80})
	for n := range 4096 {
		if c.Until() != int64(4096-n) || c.Place() != 0 {
			t.Fatalf("clock %d: %d left, place %d", n, c.Until(), c.Place())
		}
		c.Go(1)
	}
	for n := range 1000 {
		if c.Until() != int64(250-n%250) || c.Place() != 1+n/250 {
			t.Fatalf("clock %d: %d left, place %d", 4096+n, c.Until(), c.Place())
		}
		c.Go(1)
	}
}

// P14.3: the level: 0 where it isn't on; what was told, ahead of noise; noise, ahead of the wave; else the wave's at its place.
func TestLevel(t *testing.T) {
	first := heap()[0].b
	want := map[string]byte{"off": 0, "on": first, "told": 21, "told, off": 0, "noise": 31, "noise, told": 21, "noise, off": 0, "noise behind": first}
	for name, l := range kinds() {
		if c, _ := made(t, slices.Concat(heap(), l)...); c.Level() != want[name] {
			t.Errorf("%s: %d, not %d", name, c.Level(), want[name])
		}
	}
	// The noise's first step leads to a state whose lowest bit is clear.
	c, _ := made(t, slices.Concat(heap(), kinds()["noise"])...)
	if c.Go(1984); c.Level() != 0 {
		t.Errorf("noise behind a step: %d", c.Level())
	}
}

// P14.1 to P14.3: however it is written, bent, and gone on, it is as it is clock by clock.
func TestAsStepByStep(t *testing.T) {
	c, m := made(t)
	n := uint32(1)
	for i := range 20000 {
		n = n*1664525 + 1013904223
		b := byte(n >> 8)
		switch n >> 29 {
		case 0, 1, 2, 3:
			write(c, &m, set{int(n>>16%10) - 1, b})
		case 4:
			write(c, &m, set{4, b}, set{6, b})
		case 5:
			m.bend = int(n>>4%8193) - 4096
			c.Bend(m.bend)
		default:
			by := int64(n >> 10 % 3000)
			c.Go(by)
			m.steps(by)
		}
		if !is(c, m) {
			t.Fatalf("step %d: place %d, not %d; %d left, not %d; level %d", i, c.Place(), m.place, c.Until(), m.left, c.Level())
		}
	}
}

// P14.5: a wave that is written, level by level, is the wave, wherever it begins; 32 steps lead around.
func TestWave(t *testing.T) {
	for begin := range 32 {
		c, m := made(t)
		for range begin {
			write(c, &m, set{6, 31})
		}
		var want [32]byte
		for i, w := range heap() {
			want[(begin+i)%32] = w.b
			write(c, &m, w)
		}
		if c.Wave() != want || c.Place() != begin || !is(c, m) {
			t.Fatalf("written from %d on: %v, place %d", begin, c.Wave(), c.Place())
		}
		write(c, &m, set{2, 8}, set{4, 0x9F})
		c.Go(4096 - 8)
		for n := range 64 {
			if c.Place() != (begin+n)%32 || c.Level() != want[(begin+n)%32] {
				t.Errorf("from %d on, step %d: place %d, level %d", begin, n, c.Place(), c.Level())
			}
			c.Go(8)
		}
		if c.Place() != begin || c.Wave() != want {
			t.Errorf("from %d on, behind 64 steps: place %d", begin, c.Place())
		}
	}
}

// P14.1: with bit 6 set, and bit 7 clear, ahead, a wave is written from its beginning on.
func TestWaveFromBeginning(t *testing.T) {
	c, m := made(t, set{6, 1}, set{6, 1}, set{4, 0x80})
	c.Go(4096 * 7)
	m.steps(4096 * 7)
	write(c, &m, set{4, 0x40}, set{4, 0x00})
	write(c, &m, heap()...)
	for i, w := range heap() {
		if c.Wave()[i] != w.b {
			t.Errorf("level %d: %d, not %d", i, c.Wave()[i], w.b)
		}
	}
	if c.Place() != 0 || !is(c, m) {
		t.Errorf("place %d", c.Place())
	}
}

// P3: the wave that is answered is the caller's.
func TestWaveIsApart(t *testing.T) {
	c, m := made(t, heap()...)
	w := c.Wave()
	for i := range w {
		w[i] = 99
	}
	if !is(c, m) || c.Wave() == w {
		t.Error("the caller changes the wave")
	}
	held := c.Wave()
	if write(c, &m, set{6, 31}, set{6, 31}); held[0] != heap()[0].b || held[1] != heap()[1].b {
		t.Error("a wave that was answered is written to")
	}
}

// P14.4, P5: a clone is alike, another one, and apart, whichever of both goes on, is written, or bent.
func TestClone(t *testing.T) {
	for name, l := range kinds() {
		c, m := made(t, slices.Concat(heap(), at(77), []set{{5, 0xC3}, {6, 4}}, l)...)
		c.Bend(-30)
		m.bend = -30
		c.Go(9000)
		m.steps(9000)
		d, k := c.Clone(), m
		if d == nil || d == c || !is(d, k) || !is(c, m) {
			t.Fatalf("%s: a clone isn't alike, or isn't another one", name)
		}
		write(d, &k, set{4, 0x1F}, set{6, 30}, set{5, 1}, set{7, 0x81}, set{2, 9}, set{4, 0xC5}, set{6, 29}, set{4, 0x80})
		d.Bend(100)
		k.bend = 100
		d.Go(7000)
		if k.steps(7000); !is(d, k) || !is(c, m) {
			t.Errorf("%s: a clone is changed, and the first one with it", name)
		}
		c.Go(5555)
		if m.steps(5555); !is(c, m) || !is(d, k) {
			t.Errorf("%s: the first one goes on, and its clone with it", name)
		}
		write(c, &m, set{4, 0}, set{6, 1}, set{5, 0xFF}, set{7, 0x9F}, set{3, 9}, set{4, 0xC5}, set{6, 28})
		c.Bend(4096)
		if m.bend = 4096; !is(c, m) || !is(d, k) {
			t.Errorf("%s: the first one is changed, and its clone with it", name)
		}
		d.Go(64000)
		c.Go(3200)
		k.steps(64000)
		if m.steps(3200); !is(c, m) || !is(d, k) {
			t.Errorf("%s: both go on", name)
		}
	}
}

// P5: channels have nothing to do with one another.
func TestApart(t *testing.T) {
	c, m := made(t, heap()...)
	d, k := made(t)
	write(d, &k, set{7, 0x9F}, set{4, 0x9F}, set{6, 3}, set{2, 1})
	d.Go(10000)
	if k.steps(10000); !is(d, k) || !is(c, m) || !is(wave.New(), fresh()) {
		t.Error("a channel goes on with another one")
	}
}

// P14.4, P1: of nil everything is 0, or false, and nothing happens.
func TestNil(t *testing.T) {
	var c *wave.Channel
	for reg := -1; reg < 10; reg++ {
		for _, n := range []int64{math.MinInt64, -1, 0, 1, 4096, math.MaxInt64} {
			c.Write(reg, 0xDF)
			c.Bend(int(n))
			c.Go(n)
			upper, lower := c.Balance()
			if c.Level() != 0 || c.Period() != 0 || c.On() || c.Volume() != 0 || upper != 0 || lower != 0 {
				t.Errorf("a nil channel, gone on by %d: level %d", n, c.Level())
			}
			if c.Wave() != [32]byte{} || c.Place() != 0 || c.Until() != 0 || c.Clone() != nil {
				t.Errorf("a nil channel, gone on by %d: place %d, %d left", n, c.Place(), c.Until())
			}
		}
	}
}

// P1: a channel that no call made is as a new one.
func TestUnmade(t *testing.T) {
	for name, l := range kinds() {
		for _, n := range []int64{-1, 0, 1, 1984, 4095, 4096, 4097, 20000} {
			c, m := &wave.Channel{}, fresh()
			if !is(c, m) || !is(c.Clone(), m) {
				t.Fatalf("place %d, %d left; noise %#x, %d left", c.Place(), c.Until(), c.State(), c.Left())
			}
			c.Go(n)
			if m.steps(n); !is(c, m) {
				t.Errorf("gone on by %d: place %d, %d left", n, c.Place(), c.Until())
			}
			write(c, &m, at(55)...)
			if write(c, &m, l...); !is(c, m) || !is(c.Clone(), m) {
				t.Errorf("%s: place %d, %d left", name, c.Place(), c.Until())
			}
			c.Go(n)
			if m.steps(n); !is(c, m) || !is(c.Clone(), m) {
				t.Errorf("%s, gone on by %d: place %d, %d left", name, n, c.Place(), c.Until())
			}
		}
	}
	c := &wave.Channel{}
	c.Write(4, 0x80)
	if c.Go(math.MaxInt64); c.Place() != 0 || c.Until() != 4096 {
		t.Errorf("gone on by the greatest number: place %d, %d left", c.Place(), c.Until())
	}
}

// The examples of the chapter.
func TestExamples(t *testing.T) {
	c := wave.New()
	c.Write(4, 0x40)
	c.Write(4, 0)
	var want [32]byte
	for i := range want {
		c.Write(6, byte(i))
		want[i] = byte(i)
	}
	if c.Wave() != want || c.Place() != 0 {
		t.Errorf("%v, place %d", c.Wave(), c.Place())
	}
	d := wave.New()
	d.Write(2, 5)
	d.Write(4, 0x9F)
	if d.Go(4096); d.Place() != 1 {
		t.Errorf("Go(4096): place %d", d.Place())
	}
	if d.Go(5); d.Place() != 2 {
		t.Errorf("Go(5): place %d", d.Place())
	}
}
