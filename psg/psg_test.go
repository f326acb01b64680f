package psg_test

import (
	"math"
	"slices"
	"testing"

	"gannet/psg"
	"gannet/wave"
)

// model is six channels that are gone on one clock at a time.
type model struct {
	channels       [6]*wave.Channel
	chosen         byte
	loudness, deep byte
}

// fresh is the model of six new channels.
func fresh() *model {
	m := &model{}
	for n := range m.channels {
		m.channels[n] = wave.New()
	}
	return m
}

// clone is another model, alike.
func (m *model) clone() *model {
	k := *m
	for n, c := range m.channels {
		k.channels[n] = c.Clone()
	}
	return &k
}

// write changes a register.
func (m *model) write(reg int, b byte) {
	switch reg {
	case 0:
		m.chosen = b & 7
	case 1:
		m.loudness = b
	case 2, 3, 4, 5, 6:
		if m.chosen < 6 {
			m.channels[m.chosen].Write(reg, b)
		}
	case 7:
		if m.chosen == 4 || m.chosen == 5 {
			m.channels[m.chosen].Write(reg, b)
		}
	case 9:
		m.deep = b
	}
}

// depth is by how much a level bends.
func (m *model) depth() int {
	switch m.deep & 3 {
	case 1:
		return 1
	case 2:
		return 16
	case 3:
		return 256
	}
	return 0
}

// bent is by how much channel 0 is bent.
func (m *model) bent() int {
	if m.depth() == 0 || !m.channels[1].On() {
		return 0
	}
	return (int(m.channels[1].Level()) - 16) * m.depth()
}

// clocks is so many clocks, one by one.
func (m *model) clocks(n int) {
	for range n {
		m.channels[0].Bend(m.bent())
		for _, c := range m.channels {
			c.Go(1)
		}
	}
}

// voices is how high and loud all are.
func (m *model) voices() [6]psg.Voice {
	var l [6]psg.Voice
	for n, c := range m.channels {
		if n == 1 && m.depth() != 0 || !c.On() {
			continue
		}
		l[n].Level, l[n].Volume = c.Level(), c.Volume()
		l[n].Left, l[n].Right = c.Balance()
	}
	return l
}

// told is all that is told of a channel, and of the noise within.
type told struct {
	level, volume, left, right byte
	on                         bool
	period, place              int
	wave                       [32]byte
	until, rest                int64
	state                      uint32
}

// tell is all that is told of a channel.
func tell(c *wave.Channel) told {
	left, right := c.Balance()
	return told{c.Level(), c.Volume(), left, right, c.On(), c.Period(), c.Place(), c.Wave(), c.Until(), c.Left(), c.State()}
}

// is tells whether all that is told of six channels is as the model has it.
func is(g *psg.Psg, m *model) bool {
	left, right := g.Main()
	if left != m.loudness>>4 || right != m.loudness&15 || g.Chosen() != int(m.chosen) || g.Bent() != m.bent() || g.Voices() != m.voices() {
		return false
	}
	for n, c := range m.channels {
		if got := g.Channel(n); got == nil || tell(got) != tell(c) {
			return false
		}
	}
	return g.Channel(-1) == nil && g.Channel(6) == nil
}

// set is a register, and what is written to it.
type set struct {
	reg int
	b   byte
}

// write is all that is written, one behind the other, to six channels and to their model.
func write(g *psg.Psg, m *model, l ...set) {
	for _, w := range l {
		g.Write(w.reg, w.b)
		m.write(w.reg, w.b)
	}
}

// made is six channels to which was written, and their model.
func made(t *testing.T, l ...set) (*psg.Psg, *model) {
	t.Helper()
	g, m := psg.New(), fresh()
	if write(g, m, l...); !is(g, m) {
		t.Fatalf("%v: chosen %d, bent %d, voices %v", l, g.Chosen(), g.Bent(), g.Voices())
	}
	return g, m
}

// tune is what is written for a channel that goes through a wave of its own, at a frequency, and is on.
func tune(n byte, frequency int) []set {
	l := []set{{0, n}, {4, 0x40}, {4, 0x00}, {2, byte(frequency)}, {3, byte(frequency >> 8)}, {5, n*37 + 0x5A}}
	for i := range byte(32) {
		l = append(l, set{6, (i*11 + n*5 + i/7) % 32})
	}
	return append(l, set{4, 0x80 + n*4 + 3})
}

// telling is what is written for a channel that is on and tells a level.
func telling(n, level byte) []set { return []set{{0, n}, {4, 0xDF}, {6, level}} }

// band is what is written for six channels all of which are on, the last one making noise.
func band() []set {
	return slices.Concat(
		[]set{{1, 0xE7}}, tune(0, 700), tune(1, 9), tune(2, 1), tune(3, 0), tune(4, 4095), tune(5, 33),
		[]set{{7, 0x9E}},
	)
}

// some is bytes: the least, the greatest, and values between.
func some() []byte {
	return []byte{0, 1, 2, 3, 5, 15, 16, 17, 31, 32, 63, 64, 65, 100, 127, 128, 129, 159, 191, 192, 223, 224, 254, 255}
}

// P15.1: new ones: six channels as wave.New makes them, all registers 0.
func TestNew(t *testing.T) {
	g := psg.New()
	left, right := g.Main()
	if g.Chosen() != 0 || left != 0 || right != 0 || g.Bent() != 0 || g.Voices() != [6]psg.Voice{} {
		t.Errorf("chosen %d, main %d, %d, bent %d, voices %v", g.Chosen(), left, right, g.Bent(), g.Voices())
	}
	for n := range 6 {
		if c := g.Channel(n); c == nil || tell(c) != tell(wave.New()) {
			t.Errorf("channel %d isn't new", n)
		}
	}
	if !is(g, fresh()) || psg.New() == psg.New() {
		t.Error("new ones aren't as they are to be, or are one")
	}
}

// P15.1: what is written to new ones goes to channel 0.
func TestWriteUnchosen(t *testing.T) {
	g, _ := made(t, set{4, 0xDF}, set{6, 9}, set{5, 0x73})
	if g.Voices() != [6]psg.Voice{{Level: 9, Volume: 31, Left: 7, Right: 3}} {
		t.Errorf("%v", g.Voices())
	}
}

// P15.1, P15.3: register 0 is the channel b modulo 8; 6 and 7 are none.
func TestWriteChosen(t *testing.T) {
	for b := range 256 {
		g, m := made(t, set{0, byte(b)})
		if g.Chosen() != b%8 {
			t.Errorf("%d: chosen %d", b, g.Chosen())
		}
		write(g, m, set{2, 0x34}, set{3, 0x12}, set{5, 0x9B}, set{4, 0xC7}, set{6, 21})
		var want [6]psg.Voice
		if b%8 < 6 {
			want[b%8] = psg.Voice{Level: 21, Volume: 7, Left: 9, Right: 11}
		}
		if g.Voices() != want || !is(g, m) {
			t.Errorf("%d: voices %v, not %v", b, g.Voices(), want)
		}
		for n := range 6 {
			period := 4096
			if n == b%8 {
				period = 0x234
			}
			if g.Channel(n).Period() != period {
				t.Errorf("%d: channel %d has the period %d", b, n, g.Channel(n).Period())
			}
		}
	}
}

// P15.1, P15.3: register 1 is both sides' loudness.
func TestWriteMain(t *testing.T) {
	for b := range 256 {
		g, m := made(t, set{1, 0xA5}, set{1, byte(b)})
		if left, right := g.Main(); int(left) != b/16 || int(right) != b%16 {
			t.Errorf("%#x: %d, %d", b, left, right)
		}
		if write(g, m, set{0, 3}, set{4, 0x9F}, set{9, 3}); !is(g, m) {
			t.Errorf("%#x: another register changes it", b)
		}
	}
}

// P15.1, P15.5: registers 2 to 6 are the chosen channel's; of none, and of all others, nothing is changed.
func TestWriteChannel(t *testing.T) {
	for chosen := range byte(8) {
		for reg := 2; reg <= 6; reg++ {
			for _, b := range some() {
				for _, ahead := range [][]set{nil, {{0, chosen}, {4, 0x80}}, {{0, chosen}, {4, 0xC0}}, band()} {
					g, m := made(t, ahead...)
					c := g.Channel(int(chosen))
					write(g, m, set{0, chosen}, set{reg, b})
					c.Write(reg, b)
					if !is(g, m) || c != nil && tell(g.Channel(int(chosen))) != tell(c) {
						t.Errorf("channel %d, register %d: %d", chosen, reg, b)
					}
				}
			}
		}
	}
}

// P15.1: register 7 is that of channel 4 or 5 alone.
func TestWriteNoise(t *testing.T) {
	for chosen := range byte(8) {
		for _, b := range some() {
			g, m := made(t, append(band(), set{0, 5}, set{7, 0}, set{0, chosen}, set{7, b})...)
			g.Go(6000)
			if m.clocks(6000); !is(g, m) {
				t.Errorf("channel %d: %d, gone on", chosen, b)
			}
			for n := range 6 {
				moved := g.Channel(n).State() != 1 || g.Channel(n).Left() != 1984
				if want := n == int(chosen) && n >= 4 && b >= 128; moved != want {
					t.Errorf("channel %d: %d: does the noise of channel %d go on? %v", chosen, b, n, moved)
				}
			}
		}
	}
}

// P15.1: where channel 3 was told to make noise, which it doesn't, its wave is heard; channels 4 and 5 make it.
func TestWriteNoiseHeard(t *testing.T) {
	for n, want := range []byte{7, 7, 7, 7, 31, 31} {
		g, _ := made(t, set{0, byte(n)}, set{6, 7}, set{4, 0x40}, set{4, 0x80}, set{7, 0x80})
		if got := g.Voices()[n].Level; got != want {
			t.Errorf("channel %d: level %d, not %d", n, got, want)
		}
	}
}

// P15.1: 8, and 10 to 15, are none.
func TestWriteOther(t *testing.T) {
	for _, reg := range []int{8, 10, 11, 12, 13, 14, 15} {
		for _, b := range some() {
			for _, ahead := range [][]set{nil, band(), append(band(), set{9, 2}, set{0, 1})} {
				g, m := made(t, ahead...)
				if g.Write(reg, b); !is(g, m) {
					t.Errorf("register %d: %d", reg, b)
				}
				g.Go(100)
				if m.clocks(100); !is(g, m) {
					t.Errorf("register %d: %d, gone on", reg, b)
				}
			}
		}
	}
}

// P15.1: registers below 0, and of 16 and above, are modulo 16.
func TestWriteModulo(t *testing.T) {
	for _, from := range []int{math.MinInt, -1 << 32, -256, -32, -16, 16, 32, 48, 256, 1 << 32, math.MaxInt - 15} {
		for reg := range 16 {
			for _, b := range some() {
				for _, chosen := range []byte{0, 4} {
					g, m := made(t, append(band(), set{1, 0x12}, set{9, 1}, set{0, chosen})...)
					g.Write(from+reg, b)
					if m.write(reg, b); !is(g, m) {
						t.Errorf("register %d and %d: %d", from, reg, b)
					}
				}
			}
		}
	}
}

// P15.2: the depth by each value of register 9.
func TestDepth(t *testing.T) {
	for b := range 256 {
		want := [4]int{0, 1, 16, 256}[b%4]
		for _, level := range []byte{0, 1, 15, 16, 17, 20, 31} {
			g, m := made(t, append(telling(1, level), set{9, 3}, set{9, byte(b)})...)
			if g.Bent() != (int(level)-16)*want {
				t.Errorf("register 9: %d, level %d: bent %d", b, level, g.Bent())
			}
			if tells := g.Voices()[1] != (psg.Voice{}); tells != (want == 0) {
				t.Errorf("register 9: %d: channel 1 is heard: %v", b, tells)
			}
			g.Go(3)
			m.clocks(3)
			period := (7*4096 + (int(level)-16)*want) % 4096
			if period == 0 {
				period = 4096
			}
			if got := g.Channel(0).Period(); got != period || !is(g, m) {
				t.Errorf("register 9: %d, level %d: period %d, not %d", b, level, got, period)
			}
		}
	}
}

// P15.2: off it bends nothing, whatever it would tell; on it bends by what it tells.
func TestBentOnAndOff(t *testing.T) {
	for _, c := range []struct {
		control, level, deep byte
		want                 int
	}{
		{0x00, 0, 1, 0}, {0x5F, 0, 3, 0}, {0x5F, 31, 3, 0}, {0x1F, 20, 2, 0}, {0x7F, 16, 1, 0},
		{0xC0, 0, 1, -16}, {0xC0, 16, 1, 0}, {0xC0, 31, 1, 15},
		{0xDF, 0, 2, -256}, {0xDF, 15, 2, -16}, {0xDF, 16, 2, 0}, {0xDF, 17, 2, 16}, {0xDF, 20, 2, 64}, {0xDF, 31, 2, 240},
		{0xFF, 0, 3, -4096}, {0xFF, 16, 3, 0}, {0xFF, 31, 3, 3840},
		{0xFF, 0, 0, 0}, {0xFF, 31, 4, 0}, {0xFF, 31, 255, 3840},
	} {
		g, m := made(t, set{0, 1}, set{4, c.control}, set{6, c.level}, set{9, c.deep})
		if g.Bent() != c.want {
			t.Errorf("%v: bent %d", c, g.Bent())
		}
		if write(g, m, set{4, 0x5F}); g.Bent() != 0 || !is(g, m) {
			t.Errorf("%v, turned off: bent %d", c, g.Bent())
		}
		if write(g, m, set{4, 0xDF}, set{6, 19}); g.Bent() != 3*[4]int{0, 1, 16, 256}[c.deep%4] || !is(g, m) {
			t.Errorf("%v, turned on: bent %d", c, g.Bent())
		}
	}
}

// P15.2: where it goes through its wave it bends by the level at its place, clock by clock; a new wave is at 0.
func TestBentByWave(t *testing.T) {
	g, m := made(t, slices.Concat(tune(1, 3), []set{{9, 2}})...)
	l := g.Channel(1).Wave()
	place := 0
	for n := range 4096 + 200 {
		if want := (int(l[place]) - 16) * 16; g.Bent() != want || !is(g, m) {
			t.Fatalf("clock %d: bent %d, not %d", n, g.Bent(), want)
		}
		g.Go(1)
		m.clocks(1)
		if n >= 4095 && (n-4095)%3 == 0 {
			place = (place + 1) % 32
		}
	}
	h, _ := made(t, set{0, 1}, set{4, 0x80}, set{9, 1})
	if h.Bent() != -16 {
		t.Errorf("a wave of 0 alone: bent %d", h.Bent())
	}
}

// P15.1, P15.2: channel 1 makes no noise, also if that is asked for.
func TestBentNotByNoise(t *testing.T) {
	g, m := made(t, slices.Concat(tune(1, 5), []set{{7, 0x9F}, {9, 1}})...)
	for n := range 5000 {
		if g.Bent() != m.bent() || g.Channel(1).State() != 1 {
			t.Fatalf("clock %d: bent %d, not %d", n, g.Bent(), m.bent())
		}
		g.Go(1)
		m.clocks(1)
	}
	if !is(g, m) {
		t.Error("gone on it isn't as it is to be")
	}
}

// hurried is six channels, and their model, that went by their first, long step.
func hurried(t *testing.T, l ...set) (*psg.Psg, *model) {
	t.Helper()
	g, m := made(t, l...)
	g.Go(4100)
	if m.clocks(4100); !is(g, m) {
		t.Fatalf("%v, gone on by 4100: bent %d, voices %v", l, g.Bent(), g.Voices())
	}
	return g, m
}

// bands is what is written for channels with and without a depth, whose channel 1 steps seldom, often, at each clock, tells, or is off.
func bands() map[string][]set {
	all := map[string][]set{"new": nil, "plain": band()}
	for deep, name := range []string{"none", "least", "middle", "most"} {
		nine := set{9, byte(deep)}
		all[name+", seldom"] = slices.Concat(band(), tune(1, 999), []set{nine})
		all[name+", often"] = append(band(), nine)
		all[name+", each clock"] = slices.Concat(band(), tune(1, 1), []set{nine})
		all[name+", tells"] = slices.Concat(band(), telling(1, 29), []set{nine})
		all[name+", off"] = append(band(), nine, set{0, 1}, set{4, 0x1F})
		all[name+", quick"] = slices.Concat(band(), tune(0, 2), tune(1, 4), []set{nine})
	}
	return all
}

// P15.2: below 0, by 0, by 1, and by many it is as clock by clock.
func TestGo(t *testing.T) {
	for name, l := range bands() {
		for _, n := range []int{math.MinInt, -65536, -1, 0, 1, 2, 3, 8, 9, 10, 27, 32, 33, 999, 1000, 4096, 5000} {
			g, m := hurried(t, l...)
			g.Go(n)
			if m.clocks(n); !is(g, m) {
				t.Errorf("%s, Go(%d): bent %d, not %d; voices %v, not %v", name, n, g.Bent(), m.bent(), g.Voices(), m.voices())
			}
		}
	}
}

// P15.2: 65536 clocks go by at the most.
func TestGoMost(t *testing.T) {
	for _, name := range []string{"new", "plain", "least, often", "most, each clock", "middle, tells", "most, quick"} {
		g, m := hurried(t, bands()[name]...)
		m.clocks(65535)
		h := g.Clone()
		if h.Go(65535); !is(h, m) {
			t.Errorf("%s, Go(65535)", name)
		}
		m.clocks(1)
		for _, n := range []int{65536, 65537, 70000, 131072, 1 << 32, 1<<32 + 1, math.MaxInt} {
			h = g.Clone()
			if h.Go(n); !is(h, m) {
				t.Errorf("%s, Go(%d): place %d, not %d", name, n, h.Channel(2).Place(), m.channels[2].Place())
			}
		}
	}
}

// P15.2, P15.5: gone on in parts they are as gone on at once.
func TestGoInParts(t *testing.T) {
	parts := []int{0, 1, 9, 8, -7, 10, 1, 1, 300, math.MinInt, 2, 4095, 4096, 5, 999, 20000}
	for name, l := range bands() {
		for from := range parts {
			g, m := made(t, l...)
			h, all := g.Clone(), 0
			for _, n := range slices.Concat(parts[from:], parts[:from]) {
				g.Go(n)
				all += max(n, 0)
			}
			h.Go(all)
			if from == 0 {
				m.clocks(all)
			}
			for n := range 6 {
				if tell(g.Channel(n)) != tell(h.Channel(n)) {
					t.Fatalf("%s, parts from %d on: channel %d isn't as at once", name, from, n)
				}
			}
			if g.Bent() != h.Bent() || g.Voices() != h.Voices() || from == 0 && !is(g, m) {
				t.Fatalf("%s, parts from %d on: bent %d, at once %d", name, from, g.Bent(), h.Bent())
			}
		}
	}
}

// P15.2, P15.3: channel 0 stays bent by what it was at the last clock's beginning, whatever is written behind it, till the next clock.
func TestBendStays(t *testing.T) {
	g, m := made(t, slices.Concat([]set{{0, 0}, {2, 100}, {3, 4}}, telling(1, 20), []set{{9, 2}})...)
	steps := []struct {
		write []set
		goes  int
		want  int
	}{
		{nil, 0, 1124}, {nil, 1, 1188}, {[]set{{9, 0}}, 0, 1188}, {nil, -5, 1188}, {nil, 1, 1124},
		{[]set{{9, 1}}, 0, 1124}, {nil, 7, 1128}, {[]set{{6, 0}}, 0, 1128}, {nil, 1, 1108}, {[]set{{4, 0x5F}}, 0, 1108}, {nil, 2, 1124},
		{[]set{{4, 0xDF}, {9, 3}}, 1, 1124}, {[]set{{6, 17}}, 1, 1380},
	}
	for i, s := range steps {
		write(g, m, s.write...)
		g.Go(s.goes)
		m.clocks(s.goes)
		if got := g.Channel(0).Period(); got != s.want || !is(g, m) {
			t.Errorf("step %d: period %d, not %d", i, got, s.want)
		}
	}
	// At its step's clock channel 1 still bends by the level that it had.
	g, m = made(t, slices.Concat([]set{{0, 0}, {3, 4}, {0, 1}, {6, 20}, {6, 25}, {4, 0x40}, {4, 0x80}, {9, 1}})...)
	g.Go(4095)
	g.Go(1)
	if g.Bent() != 9 || g.Channel(0).Period() != 1028 {
		t.Errorf("at a step: bent %d, period %d", g.Bent(), g.Channel(0).Period())
	}
	g.Go(1)
	m.clocks(4097)
	if g.Bent() != 9 || g.Channel(0).Period() != 1033 || !is(g, m) {
		t.Errorf("behind a step: bent %d, period %d", g.Bent(), g.Channel(0).Period())
	}
}

// P15.2: channel 0 alone is bent; at its step the new period is left.
func TestGoBent(t *testing.T) {
	l := []set{{0, 0}, {2, 50}, {4, 0x9F}, {0, 2}, {2, 50}, {4, 0x9F}}
	g, m := made(t, slices.Concat(l, telling(1, 31), []set{{9, 1}})...)
	g.Go(4095)
	if g.Channel(0).Until() != 1 || g.Channel(2).Until() != 1 {
		t.Errorf("ahead of a step: %d, %d left", g.Channel(0).Until(), g.Channel(2).Until())
	}
	g.Go(1)
	m.clocks(4096)
	if g.Channel(0).Until() != 65 || g.Channel(2).Until() != 50 || g.Channel(2).Period() != 50 || !is(g, m) {
		t.Errorf("at a step: %d, %d left", g.Channel(0).Until(), g.Channel(2).Until())
	}
}

// P15.3: of each channel its level, its volume, and both sides' balance; of such as aren't on nothing.
func TestVoices(t *testing.T) {
	for on := range 64 {
		for deep := range byte(4) {
			var l []set
			var want [6]psg.Voice
			for n := range byte(6) {
				l = append(l, telling(n, 30-n)...)
				l = append(l, set{5, 0x21*n + 7})
				if on>>n&1 == 0 {
					l = append(l, set{4, 0x40 + n})
					continue
				}
				l = append(l, set{4, 0xC0 + n*6})
				if n != 1 || deep == 0 {
					want[n] = psg.Voice{Level: 30 - n, Volume: n * 6, Left: (0x21*n + 7) / 16, Right: (0x21*n + 7) % 16}
				}
			}
			if g, _ := made(t, append(l, set{9, deep})...); g.Voices() != want {
				t.Errorf("on %#b, depth %d: %v, not %v", on, deep, g.Voices(), want)
			}
		}
	}
}

// P3: the voices that are answered are the caller's.
func TestVoicesApart(t *testing.T) {
	g, m := made(t, band()...)
	l := g.Voices()
	held := l
	l[2] = psg.Voice{Level: 99}
	if !is(g, m) {
		t.Error("the caller changes the voices")
	}
	l = g.Voices()
	if g.Go(5000); l != held {
		t.Error("voices that were answered are changed")
	}
}

// P15.3: a copy of a channel, that the caller may change; none below 0, and of 6 and above.
func TestChannel(t *testing.T) {
	g, m := hurried(t, append(band(), set{9, 2})...)
	for _, n := range []int{math.MinInt, -256, -6, -1, 6, 7, 8, 256, 1 << 32, math.MaxInt} {
		if g.Channel(n) != nil {
			t.Errorf("there is a channel %d", n)
		}
	}
	for n := range 6 {
		c, d := g.Channel(n), g.Channel(n)
		if c == nil || c == d || tell(c) != tell(m.channels[n]) {
			t.Fatalf("channel %d isn't a copy", n)
		}
		for _, w := range []set{{2, 77}, {3, 7}, {5, 0x11}, {6, 1}, {7, 0x85}, {4, 0xC1}, {6, 2}, {4, 0x80}} {
			c.Write(w.reg, w.b)
		}
		c.Bend(-40)
		if c.Go(3000); !is(g, m) || tell(d) != tell(m.channels[n]) {
			t.Errorf("channel %d: the caller changes it", n)
		}
		h, held := g.Clone(), tell(d)
		if h.Go(300); tell(d) != held {
			t.Errorf("channel %d: a copy goes on", n)
		}
	}
	l := []*wave.Channel{g.Channel(0), g.Channel(1)}
	ahead := []told{tell(l[0]), tell(l[1])}
	g.Go(777)
	g.Write(0, 1)
	g.Write(4, 0x1F)
	if tell(l[0]) != ahead[0] || tell(l[1]) != ahead[1] {
		t.Error("a copy is changed with its channel")
	}
}

// P15.3: a copy of channel 0 is bent as the channel is.
func TestChannelBent(t *testing.T) {
	g, _ := made(t, slices.Concat([]set{{0, 0}, {2, 50}, {4, 0x9F}}, telling(1, 31), []set{{9, 1}})...)
	g.Go(1)
	c := g.Channel(0)
	if c.Go(4095); c.Until() != 65 || c.Period() != 65 {
		t.Errorf("%d left, period %d", c.Until(), c.Period())
	}
}

// P15.4, P5: a clone is alike, another one, and apart, whichever of both goes on, or is written.
func TestClone(t *testing.T) {
	for name, l := range bands() {
		g, m := hurried(t, l...)
		h, k := g.Clone(), m.clone()
		if h == nil || h == g || !is(h, k) || !is(g, m) {
			t.Fatalf("%s: a clone isn't alike, or isn't another one", name)
		}
		h.Go(333)
		if k.clocks(333); !is(h, k) || !is(g, m) {
			t.Errorf("%s: a clone goes on, and the first one with it", name)
		}
		for n := range byte(8) {
			write(h, k, set{0, n}, set{2, 3 + n}, set{3, 0}, set{5, 0x44}, set{7, 0x9F}, set{6, 30}, set{4, 0xC9}, set{6, 8}, set{4, 0x92})
		}
		if write(h, k, set{1, 0x91}, set{9, 1}); !is(h, k) || !is(g, m) {
			t.Errorf("%s: a clone is written, and the first one with it", name)
		}
		g.Go(555)
		if m.clocks(555); !is(g, m) || !is(h, k) {
			t.Errorf("%s: the first one goes on, and its clone with it", name)
		}
		if write(g, m, set{1, 0x3C}, set{9, 2}, set{0, 0}, set{4, 0}, set{0, 5}, set{4, 0xDF}, set{6, 1}); !is(g, m) || !is(h, k) {
			t.Errorf("%s: the first one is written, and its clone with it", name)
		}
		g.Go(2000)
		h.Go(4000)
		m.clocks(2000)
		if k.clocks(4000); !is(g, m) || !is(h, k) {
			t.Errorf("%s: both go on", name)
		}
	}
}

// P5: they have nothing to do with others that New made.
func TestApart(t *testing.T) {
	g, m := made(t)
	h, k := made(t, append(band(), set{9, 3})...)
	h.Go(5000)
	if k.clocks(5000); !is(h, k) || !is(g, m) || !is(psg.New(), fresh()) {
		t.Error("new ones go on with others")
	}
}

// P15.4, P1: of nil everything is 0, zero, or nil, and nothing happens.
func TestNil(t *testing.T) {
	var g *psg.Psg
	for _, n := range []int{math.MinInt, -1, 0, 1, 2, 4, 6, 7, 9, 16, 65536, math.MaxInt} {
		g.Write(n, 0xDF)
		g.Go(n)
		left, right := g.Main()
		if g.Chosen() != 0 || left != 0 || right != 0 || g.Channel(n) != nil || g.Voices() != [6]psg.Voice{} || g.Bent() != 0 || g.Clone() != nil {
			t.Errorf("nil, at %d: chosen %d, bent %d", n, g.Chosen(), g.Bent())
		}
	}
}

// P1: such as no call made are as new ones.
func TestUnmade(t *testing.T) {
	if g := new(psg.Psg); !is(g, fresh()) || !is(g.Clone(), fresh()) {
		t.Errorf("chosen %d, bent %d", g.Chosen(), g.Bent())
	}
	for name, l := range bands() {
		for _, n := range []int{-1, 0, 1, 4095, 4097, 9000} {
			g, m := new(psg.Psg), fresh()
			g.Go(n)
			if m.clocks(n); !is(g, m) || !is(g.Clone(), m) {
				t.Errorf("gone on by %d", n)
			}
			if write(g, m, l...); !is(g, m) {
				t.Errorf("%s", name)
			}
			h, k := new(psg.Psg).Clone(), fresh()
			write(h, k, l...)
			h.Go(n)
			if k.clocks(n); !is(h, k) || !is(h.Clone(), k) {
				t.Errorf("%s, gone on by %d", name, n)
			}
		}
	}
	for chosen := range byte(8) {
		for reg := range 16 {
			g, m := new(psg.Psg), fresh()
			if write(g, m, set{0, chosen}, set{9, 3}, set{reg, 0x9F}); !is(g, m) {
				t.Errorf("channel %d, register %d", chosen, reg)
			}
		}
	}
}

// P15.1 to P15.3: however they are written and gone on, they are as clock by clock.
func TestAsClockByClock(t *testing.T) {
	g, m := made(t, band()...)
	n := uint32(7)
	for i := range 6000 {
		n = n*1664525 + 1013904223
		b := byte(n >> 8)
		switch n >> 29 {
		case 0, 1, 2:
			write(g, m, set{int(n >> 16 % 16), b})
		case 3:
			write(g, m, set{0, b}, set{4, byte(n>>16) | 0x80})
		case 4:
			write(g, m, set{0, 1}, set{2, b % 16}, set{3, 0}, set{6, b}, set{4, 0x80 | b>>1&0x40}, set{9, b})
		default:
			by := int(n >> 10 % 600)
			g.Go(by)
			m.clocks(by)
		}
		if !is(g, m) {
			t.Fatalf("step %d: chosen %d, bent %d, not %d; voices %v, not %v", i, g.Chosen(), g.Bent(), m.bent(), g.Voices(), m.voices())
		}
	}
}

// The examples of the chapter.
func TestExamples(t *testing.T) {
	g := psg.New()
	g.Write(0, 2)
	g.Write(4, 0xDF)
	g.Write(6, 9)
	if v := g.Voices()[2]; v.Level != 9 || v.Volume != 31 {
		t.Errorf("%v", v)
	}
	h := psg.New()
	h.Write(9, 2)
	h.Write(0, 1)
	h.Write(4, 0xC0)
	h.Write(6, 20)
	if h.Bent() != 64 {
		t.Errorf("bent %d", h.Bent())
	}
}
