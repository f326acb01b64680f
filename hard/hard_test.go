package hard_test

import (
	"math"
	"slices"
	"testing"

	"gannet/api"
	"gannet/hard"
	"gannet/lines"
)

// every is how many master clocks there are from a tick to the next one.
const every = 3072

// Where registers stand.
const (
	psg     = 0x0800
	reload  = 0x0C00
	running = 0x0C01
	pads    = 0x1000
	disable = 0x1402
	asked   = 0x1403
)

// made is a page of feeds and edges that may be.
func made(t *testing.T, f api.Feeds, edges ...api.Edge) *hard.Page {
	t.Helper()
	p, fault := hard.New(f, edges)
	if p == nil || fault != (api.Fault{}) {
		t.Fatalf("a page of feeds and edges that may be: %v", fault)
	}
	return p
}

// plain is a page of no bytes and no edges.
func plain(t *testing.T) *hard.Page {
	t.Helper()
	return made(t, api.Feeds{})
}

// first is the registers of a new page.
func first() api.Status { return api.Status{Left: every} }

// told is feeds of a few bytes, no two of them alike.
func told() api.Feeds {
	return api.Feeds{Vdc: []byte{0x11, 0x12, 0x13}, Vce: []byte{0x21, 0x22}, Port: []byte{0x5A, 0x6B, 0x7C, 0x8D}}
}

// up and down are edges.
func up(stamp int64, line uint8) api.Edge   { return api.Edge{Stamp: stamp, Line: line, Up: true} }
func down(stamp int64, line uint8) api.Edge { return api.Edge{Stamp: stamp, Line: line} }

// model is a page as the chapters tell it, its timer counted tick by tick, its lines asked of all edges.
type model struct {
	s     api.Status
	f     api.Feeds
	edges []api.Edge
	now   int64
	pad   int
	// seen is how many edges went by.
	seen int
	nmi  bool
}

// modelOf is a new page's.
func modelOf(f api.Feeds, edges []api.Edge) *model {
	return &model{s: first(), f: f, edges: edges}
}

// to goes on to a stamp.
func (m *model) to(stamp int64) {
	if stamp <= m.now {
		return
	}
	for n := stamp - m.now; n > 0 && m.s.On; {
		by := min(n, m.s.Left)
		n -= by
		if m.s.Left -= by; m.s.Left > 0 {
			continue
		}
		m.s.Left = every
		if m.s.Counter > 0 {
			m.s.Counter--
		} else {
			m.s.Counter, m.s.Due = m.s.Reload, true
		}
	}
	for ; m.seen < len(m.edges) && m.edges[m.seen].Stamp <= stamp; m.seen++ {
		if e := m.edges[m.seen]; e.Line == api.LineNmi {
			m.s.Nmi = m.s.Nmi || e.Up && !m.nmi
			m.nmi = e.Up
		}
	}
	m.now = stamp
}

// is tells whether a line is up.
func (m *model) is(line uint8) bool { return lines.At(m.edges[:m.seen], line, m.now) }

// next is a byte of a feed of which so many were asked for.
func next(l []byte, taken *int) byte {
	*taken++
	if *taken > len(l) {
		return 255
	}
	return l[*taken-1]
}

// drive drives bits of the buffer.
func (m *model) drive(mask, b byte) byte {
	for n := range 8 {
		if bit := byte(1 << n); mask&bit != 0 {
			m.s.Latch = m.s.Latch&^bit | b&bit
		}
	}
	return m.s.Latch
}

// port is what the port is read as.
func (m *model) port() byte {
	if m.s.Select >= 2 || m.pad > 4 {
		return 0xB0
	}
	b := next(m.f.Port, &m.s.Port)
	if m.s.Select == 1 {
		return 0xB0 + b/16
	}
	return 0xB0 + b%16
}

// asks is who asks, as bits.
func (m *model) asks() byte {
	b := byte(0)
	for bit, so := range []bool{m.is(api.LineIrq2), m.is(api.LineIrq1), m.s.Due} {
		if so {
			b += 1 << bit
		}
	}
	return b
}

// read is a byte.
func (m *model) read(off uint16) byte {
	switch off %= 8192; {
	case off < 1024:
		return next(m.f.Vdc, &m.s.Vdc)
	case off < 2048:
		return next(m.f.Vce, &m.s.Vce)
	case off < 3072:
		return m.s.Latch
	case off < 4096:
		return m.drive(0x7F, m.s.Counter)
	case off < 5120:
		return m.drive(0xFF, m.port())
	case off < 6144 && off%4 == 2:
		return m.drive(7, m.s.Disable)
	case off < 6144 && off%4 == 3:
		return m.drive(7, m.asks())
	case off < 6144:
		return m.s.Latch
	}
	return 255
}

// write changes a byte.
func (m *model) write(off uint16, b byte) {
	switch off %= 8192; {
	case off < 2048, off >= 6144:
		return
	case off < 3072:
	case off < 4096 && off%2 == 0:
		m.s.Reload = b & 0x7F
	case off < 4096:
		if b&1 == 1 && !m.s.On {
			m.s.Counter, m.s.Left = m.s.Reload, every
		}
		m.s.On = b&1 == 1
	case off < 5120:
		if b&2 == 2 {
			m.pad = 0
		} else if b&1 == 1 && m.s.Select&1 == 0 {
			m.pad = min(m.pad+1, 5)
		}
		m.s.Select = b & 3
	case off%4 == 2:
		m.s.Disable = b & 7
	case off%4 == 3:
		m.s.Due = false
	}
	m.s.Latch = b
}

// choose is what is entered.
func (m *model) choose(masked bool) uint8 {
	switch may := m.asks() &^ m.s.Disable; {
	case m.is(api.LineReset):
		return api.ByReset
	case m.s.Nmi:
		return api.ByNmi
	case masked:
		return api.Nothing
	case may&4 != 0:
		return api.ByTimer
	case may&2 != 0:
		return api.ByIrq1
	case may&1 != 0:
		return api.ByIrq2
	}
	return api.Nothing
}

// entered tells that something is.
func (m *model) entered(kind uint8) {
	switch kind {
	case api.ByNmi:
		m.s.Nmi = false
	case api.ByReset:
		m.s.On, m.s.Due, m.s.Disable = false, false, 0
	}
}

// alike tells whether a page is as the model is, as far as that can be seen without a change of it.
func alike(p *hard.Page, m *model) bool {
	return p.Status() == m.s && p.Now() == m.now && p.Choose(false) == m.choose(false) && p.Choose(true) == m.choose(true)
}

// chooses tells whether a page chooses so, not masked, and masked; nothing is changed by that.
func chooses(p *hard.Page, open, masked uint8) bool {
	s := p.Status()
	return p.Choose(false) == open && p.Choose(true) == masked && p.Status() == s
}

// P12.1: a new page is at 0, its devices are new, its buffer has 0.
func TestNew(t *testing.T) {
	most := make([]byte, api.MaxFeed)
	for i, f := range []api.Feeds{{}, told(), {Vdc: []byte{}, Vce: []byte{}, Port: []byte{}}, {Vdc: most, Vce: most, Port: most}} {
		p, fault := hard.New(f, []api.Edge{up(0, api.LineReset), up(5, api.LineNmi)})
		if p == nil || fault != (api.Fault{}) || p.Now() != 0 || p.Status() != first() || !chooses(p, 0, 0) {
			t.Errorf("a new page of feeds %d: %v", i, fault)
		}
	}
	if plain(t) == plain(t) {
		t.Error("two new pages are one")
	}
}

// P12.1, P2: feeds that are too long.
func TestNewLong(t *testing.T) {
	long := make([]byte, api.MaxFeed+1)
	want := api.Fault{Errno: api.ErrLong}
	for i, f := range []api.Feeds{{Vdc: long}, {Vce: long}, {Port: long}, {Vdc: long, Vce: long, Port: long}} {
		if p, fault := hard.New(f, nil); p != nil || fault != want {
			t.Errorf("feeds %d: %v", i, fault)
		}
	}
}

// P12.1, P2: edges that are wrong, with their fault, and its place.
func TestNewEdges(t *testing.T) {
	for _, c := range []struct {
		l    []api.Edge
		want api.Fault
	}{
		{[]api.Edge{up(0, 4)}, api.Fault{Errno: api.ErrLine}},
		{[]api.Edge{up(0, 1), up(0, 255)}, api.Fault{Errno: api.ErrLine, At: 1}},
		{[]api.Edge{up(-1, 0)}, api.Fault{Errno: api.ErrEdge}},
		{[]api.Edge{up(5, 0), up(6, 1), down(5, 0)}, api.Fault{Errno: api.ErrEdge, At: 2}},
		{[]api.Edge{up(24*api.MaxBudget, 0), down(24*api.MaxBudget+1, 0)}, api.Fault{Errno: api.ErrEdge, At: 1}},
		{make([]api.Edge, api.MaxEdges+1), api.Fault{Errno: api.ErrLong, At: api.MaxEdges}},
	} {
		if p, fault := hard.New(told(), c.l); p != nil || fault != c.want {
			t.Errorf("%d edges: %v, not %v", len(c.l), fault, c.want)
		}
	}
	made(t, api.Feeds{}, make([]api.Edge, api.MaxEdges)...)
	made(t, api.Feeds{}, up(24*api.MaxBudget, 3))
}

// P12.1, P2: of feeds and edges that are both wrong the feeds are named.
func TestNewBoth(t *testing.T) {
	f := api.Feeds{Port: make([]byte, api.MaxFeed+1)}
	for i, l := range [][]api.Edge{{up(0, 0), up(1, 9)}, {up(3, 0), up(2, 0)}, make([]api.Edge, api.MaxEdges+1)} {
		if p, fault := hard.New(f, l); p != nil || fault != (api.Fault{Errno: api.ErrLong}) {
			t.Errorf("both wrong, edges %d: %v", i, fault)
		}
	}
}

// P12.1: To goes on to a stamp that is above Now; else nothing happens.
func TestTo(t *testing.T) {
	p := plain(t)
	for _, c := range []struct{ stamp, now int64 }{
		{math.MinInt64, 0}, {-1, 0}, {0, 0}, {1, 1}, {1, 1}, {0, 1}, {-5, 1}, {100, 100}, {99, 100}, {100, 100}, {101, 101},
		{math.MinInt64, 101}, {1 << 45, 1 << 45}, {math.MaxInt64 - 1, math.MaxInt64 - 1}, {math.MaxInt64, math.MaxInt64}, {0, math.MaxInt64},
	} {
		if p.To(c.stamp); p.Now() != c.now || p.Status() != first() {
			t.Errorf("To(%d): at %d", c.stamp, p.Now())
		}
	}
}

// P12.1: the timer goes on by what is between, and by nothing, if the stamp isn't above Now.
func TestToTimer(t *testing.T) {
	p := plain(t)
	p.To(1000)
	p.Write(reload, 5)
	p.Write(running, 1)
	want := api.Status{Latch: 1, Reload: 5, Counter: 5, Left: every, On: true}
	for _, c := range []struct {
		stamp, left int64
		counter     byte
	}{{1000, every, 5}, {900, every, 5}, {1001, every - 1, 5}, {1001, every - 1, 5}, {4071, 1, 5}, {4072, every, 4}, {4073, every - 1, 4}, {1000 + 2*every, every, 3}, {7, every, 3}} {
		p.To(c.stamp)
		if want.Left, want.Counter = c.left, c.counter; p.Status() != want {
			t.Errorf("To(%d): %v", c.stamp, p.Status())
		}
	}
}

// P12.1: a timer that is over behind a stamp, just at it, or ahead of it: the controller is told, if it was over by then, and not otherwise.
func TestToOver(t *testing.T) {
	for _, c := range []struct {
		stamp int64
		due   bool
	}{{2*every - 1, false}, {2 * every, true}, {2*every + 1, true}, {3 * every, true}, {100 * every, true}} {
		p := plain(t)
		p.Write(reload, 1)
		p.Write(running, 1)
		if p.To(c.stamp); p.Status().Due != c.due || p.Read(asked)&4 != 0 != c.due {
			t.Errorf("To(%d): %v", c.stamp, p.Status().Due)
		}
		want := uint8(api.Nothing)
		if c.due {
			want = api.ByTimer
		}
		if !chooses(p, want, api.Nothing) {
			t.Errorf("To(%d): %d is chosen", c.stamp, p.Choose(false))
		}
	}
}

// P12.1: once told the controller stays so till it is answered, however the timer goes on; then till it is over again.
func TestToOverAgain(t *testing.T) {
	p := plain(t)
	p.Write(running, 1)
	for n := int64(1); n <= 5; n++ {
		if p.To(n*every - 1); p.Status().Due {
			t.Fatalf("round %d: over early", n)
		}
		if p.To(n * every); !p.Status().Due || p.Status().Left != every {
			t.Fatalf("round %d: not over", n)
		}
		if p.To(n*every + 1); !p.Status().Due {
			t.Fatalf("round %d: over, and not any more", n)
		}
		p.Write(asked, 0)
		if p.Status().Due || !p.Status().On || p.Status().Left != every-1 {
			t.Fatalf("round %d: answered", n)
		}
	}
	p.Write(running, 0)
	if p.To(100 * every); p.Status().Due || !chooses(p, 0, 0) {
		t.Error("over, while it stands still")
	}
}

// P12.1: edges ahead of a stamp, and just at it, went by then; those behind it didn't.
func TestToEdges(t *testing.T) {
	for line, kind := range []uint8{api.ByReset, api.ByNmi, api.ByIrq1, api.ByIrq2} {
		for stamp, went := range map[int64]bool{1: false, 98: false, 99: false, 100: true, 101: true, 1000: true} {
			p, want := made(t, api.Feeds{}, up(100, uint8(line))), uint8(0)
			if went {
				want = kind
			}
			if p.To(stamp); p.Choose(false) != want {
				t.Errorf("line %d, To(%d): %d", line, stamp, p.Choose(false))
			}
		}
	}
}

// P12.1: lines that go down again don't ask any more, but for nmi, which rose.
func TestToEdgesDown(t *testing.T) {
	for line := range uint8(4) {
		p := made(t, api.Feeds{}, up(10, line), down(20, line), up(30, line))
		kind := []uint8{api.ByReset, api.ByNmi, api.ByIrq1, api.ByIrq2}[line]
		for _, c := range []struct {
			stamp int64
			up    bool
		}{{9, false}, {10, true}, {19, true}, {20, false}, {29, false}, {30, true}} {
			want := uint8(0)
			if c.up || line == api.LineNmi && c.stamp >= 10 {
				want = kind
			}
			if p.To(c.stamp); p.Choose(false) != want || p.Status().Nmi != (want == api.ByNmi) {
				t.Errorf("line %d at %d: %d", line, c.stamp, p.Choose(false))
			}
		}
	}
}

// P12.1: an edge at 0 is ahead of a new page, as nothing happens To(0); it goes by with the first stamp above.
func TestToEdgeAtNothing(t *testing.T) {
	p := made(t, api.Feeds{}, up(0, api.LineIrq1))
	if p.To(0); !chooses(p, api.Nothing, api.Nothing) || p.Now() != 0 {
		t.Error("an edge at 0, and To(0)")
	}
	if p.To(1); !chooses(p, api.ByIrq1, api.Nothing) {
		t.Error("an edge at 0, and To(1)")
	}
}

// P12.1: an edge behind which nobody goes, and one at the greatest stamp.
func TestToGreatest(t *testing.T) {
	p := made(t, api.Feeds{}, up(24*api.MaxBudget, api.LineIrq2))
	p.Write(reload, 127)
	p.Write(running, 1)
	if p.To(24*api.MaxBudget - 1); !chooses(p, api.ByTimer, api.Nothing) {
		t.Error("ahead of the greatest stamp of an edge")
	}
	p.Write(disable, 4)
	if p.To(24 * api.MaxBudget); !chooses(p, api.ByIrq2, api.Nothing) {
		t.Error("at the greatest stamp of an edge")
	}
	p.To(math.MaxInt64)
	if s := p.Status(); p.Now() != math.MaxInt64 || s.Left != every-math.MaxInt64%every || !s.Due {
		t.Errorf("the greatest stamp: %v", s)
	}
}

// P12.2: VDC and VCE are read as their feeds, byte by byte, at whatever place of theirs, and then as 255; the buffer stays.
func TestReadFeeds(t *testing.T) {
	p := made(t, told())
	p.Write(psg, 0x99)
	offs := []uint16{0, 1023, 1, 2, 512, 8192, 0xE000, 0xE3FF}
	for i, off := range offs {
		want := byte(255)
		if i < 3 {
			want = told().Vdc[i]
		}
		if got := p.Read(off); got != want || p.Status() != (api.Status{Latch: 0x99, Left: every, Vdc: i + 1}) {
			t.Errorf("VDC at %X: %X, %v", off, got, p.Status())
		}
	}
	for i, off := range []uint16{1024, 2047, 1025, 1500, 8192 + 1024, 0xE7FF} {
		want := byte(255)
		if i < 2 {
			want = told().Vce[i]
		}
		if got := p.Read(off); got != want || p.Status() != (api.Status{Latch: 0x99, Left: every, Vdc: len(offs), Vce: i + 1}) {
			t.Errorf("VCE at %X: %X, %v", off, got, p.Status())
		}
	}
}

// P12.2: PSG is read as what the buffer has, at each place, and that stays.
func TestReadPsg(t *testing.T) {
	for b := range 256 {
		p := made(t, told())
		p.Write(psg, byte(b))
		for _, off := range []uint16{2048, 2049, 2063, 2064, 3071, 0xE800} {
			if got := p.Read(off); got != byte(b) || p.Status() != (api.Status{Latch: byte(b), Left: every}) {
				t.Errorf("PSG at %X: %X, not %X", off, got, b)
			}
		}
	}
}

// P12.2: the timer drives the low seven bits, by its counter, at each place; the highest one stays.
func TestReadTimer(t *testing.T) {
	for _, counter := range []byte{0, 1, 0x2A, 0x55, 127} {
		for b := range 256 {
			for _, off := range []uint16{3072, 3073, 3074, 4095, 0xEC00} {
				p := plain(t)
				p.Write(reload, counter)
				p.Write(running, 1)
				p.Write(reload, 0x33)
				p.Write(psg, byte(b))
				want := byte(b)&0x80 + counter
				if got := p.Read(off); got != want || p.Status() != (api.Status{Latch: want, Reload: 0x33, Counter: counter, Left: every, On: true}) {
					t.Errorf("the timer at %X, %d, buffer %X: %X", off, counter, b, got)
				}
			}
		}
	}
}

// P12.2: the port drives all bits, at each place.
func TestReadPort(t *testing.T) {
	for b := range 256 {
		p := made(t, told())
		for i, off := range []uint16{4096, 4097, 4098, 5119, 0xF000} {
			want := byte(0xBF)
			if i < 4 {
				want = 0xB0 + told().Port[i]%16
			}
			p.Write(psg, byte(b))
			if got := p.Read(off); got != want || p.Status() != (api.Status{Latch: want, Left: every, Port: i + 1}) {
				t.Errorf("the port at %X, buffer %X: %X", off, b, got)
			}
		}
	}
	p := made(t, told())
	if p.Write(pads, 0xFF); p.Read(pads) != 0xB0 || p.Status() != (api.Status{Latch: 0xB0, Select: 3, Left: every}) {
		t.Error("the port, cleared")
	}
}

// P12.2: of the controller the registers 2 and 3 drive three bits; 0 and 1 are what the buffer has.
func TestReadIrq(t *testing.T) {
	for b := range 256 {
		for disabled := range byte(8) {
			for _, off := range []uint16{5120, 5124, 6140, 0xF400} {
				p := made(t, api.Feeds{}, up(1, api.LineIrq2))
				p.To(1)
				p.Write(disable, disabled)
				p.Write(psg, byte(b))
				want := api.Status{Latch: byte(b), Disable: disabled, Left: every}
				if p.Read(off) != byte(b) || p.Read(off+1) != byte(b) || p.Status() != want {
					t.Errorf("registers 0 and 1 at %X, buffer %X", off, b)
				}
				want.Latch = byte(b)&^7 + disabled
				if p.Read(off+2) != want.Latch || p.Status() != want {
					t.Errorf("register 2 at %X, buffer %X, %d disabled: %X", off, b, disabled, p.Status().Latch)
				}
				want.Latch = byte(b)&^7 + 1
				if p.Read(off+3) != want.Latch || p.Status() != want {
					t.Errorf("register 3 at %X, buffer %X, %d disabled: %X", off, b, disabled, p.Status().Latch)
				}
			}
		}
	}
}

// P12.2: register 3 tells who asks: the timer, and the lines irq1 and irq2, as they stand, disabled, or not; reset and nmi have no bit.
func TestReadAsked(t *testing.T) {
	edges := []api.Edge{up(1, api.LineReset), up(1, api.LineNmi), up(2, api.LineIrq1), up(3, api.LineIrq2), down(4, api.LineIrq1), down(every, api.LineIrq2)}
	for disabled := range byte(8) {
		p := made(t, api.Feeds{}, edges...)
		p.Write(running, 1)
		p.Write(disable, disabled)
		for _, c := range []struct {
			stamp int64
			want  byte
		}{{0, 0}, {1, 0}, {2, 2}, {3, 3}, {4, 1}, {every - 1, 1}, {every, 4}} {
			p.Write(psg, 0xF8)
			if p.To(c.stamp); p.Read(asked) != 0xF8+c.want {
				t.Errorf("at %d, %d disabled: %X", c.stamp, disabled, p.Status().Latch)
			}
		}
		p.Write(asked, 0xFF)
		if p.Read(asked) != 0xF8 {
			t.Errorf("answered, %d disabled: %X", disabled, p.Status().Latch)
		}
	}
}

// P12.2: where nothing is 255 is read, and nothing happens.
func TestReadOpen(t *testing.T) {
	for _, off := range []uint16{6144, 6145, 7000, 8191, 0xF800, 0xFFFF} {
		p := made(t, told())
		p.Write(psg, 0x12)
		if got := p.Read(off); got != 255 || p.Status() != (api.Status{Latch: 0x12, Left: every}) {
			t.Errorf("at %X: %X", off, got)
		}
	}
}

// P12.3: VDC, VCE, and where nothing is aren't written; the buffer stays.
func TestWriteNothing(t *testing.T) {
	for _, off := range []uint16{0, 1, 2, 3, 1023, 1024, 1031, 2047, 6144, 6146, 7000, 8191, 0xE000, 0xFFFF} {
		p := made(t, told())
		p.Write(psg, 0x12)
		if p.Write(off, 0xFF); p.Status() != (api.Status{Latch: 0x12, Left: every}) {
			t.Errorf("at %X: %v", off, p.Status())
		}
		if p.Read(0) != 0x11 || p.Read(1024) != 0x21 {
			t.Errorf("at %X: a feed is changed", off)
		}
	}
}

// P12.3: the first and the last place of each device, and those at which its registers stand again.
func TestWritePlaces(t *testing.T) {
	for _, c := range []struct {
		offs []uint16
		want api.Status
	}{
		{[]uint16{2048, 2049, 2060, 3071, 0xE800}, api.Status{}},
		{[]uint16{3072, 3074, 4094, 0xEC00, 0x2C00}, api.Status{Reload: 0x47}},
		{[]uint16{3073, 3075, 4095, 0xEC01}, api.Status{On: true}},
		{[]uint16{4096, 4097, 4098, 4099, 5119, 0xF000}, api.Status{Select: 3}},
		{[]uint16{5120, 5121, 5124, 6140, 6141, 0xF400}, api.Status{}},
		{[]uint16{5122, 5126, 6142, 0xF402}, api.Status{Disable: 7}},
		{[]uint16{5123, 5127, 6143, 0xF403}, api.Status{}},
	} {
		for _, off := range c.offs {
			p := made(t, told())
			p.Write(psg, 0x12)
			p.Write(off, 0xC7)
			want := c.want
			if want.Latch, want.Left = 0xC7, every; p.Status() != want {
				t.Errorf("at %X: %v, not %v", off, p.Status(), want)
			}
		}
	}
}

// P12.3: the buffer has what was written, whatever that is, even where the device takes fewer bits of it.
func TestWriteBuffer(t *testing.T) {
	for b := range 256 {
		for _, off := range []uint16{psg, reload, running, pads, 0x1400, 0x1401, disable, asked} {
			p := plain(t)
			p.Write(psg, ^byte(b))
			p.Write(off, byte(b))
			if p.Status().Latch != byte(b) || p.Read(psg) != byte(b) {
				t.Errorf("%X at %X: %X", b, off, p.Status().Latch)
			}
		}
	}
}

// P12.3: the timer is set, and turned on and off.
func TestWriteTimer(t *testing.T) {
	p := plain(t)
	p.To(77)
	p.Write(reload, 0x83)
	p.Write(running, 0xFF)
	if p.Status() != (api.Status{Latch: 0xFF, Reload: 3, Counter: 3, Left: every, On: true}) {
		t.Errorf("on: %v", p.Status())
	}
	p.To(77 + every + 9)
	if p.Write(running, 0xFE); p.Status() != (api.Status{Latch: 0xFE, Reload: 3, Counter: 2, Left: every - 9}) {
		t.Errorf("off: %v", p.Status())
	}
	p.To(77 + 100*every)
	if p.Write(running, 1); p.Status() != (api.Status{Latch: 1, Reload: 3, Counter: 3, Left: every, On: true}) {
		t.Errorf("on again: %v", p.Status())
	}
}

// P12.3: the port's lines are written, so that its next pad is asked, or pad 0.
func TestWritePort(t *testing.T) {
	p := made(t, told())
	for i, c := range []struct{ line, want byte }{{0, 0xBA}, {1, 0xB6}, {0xFD, 0xB7}, {0, 0xBD}, {2, 0xB0}, {3, 0xB0}, {1, 0xBF}} {
		p.Write(pads, c.line)
		if p.Status().Latch != c.line || p.Status().Select != c.line&3 {
			t.Errorf("step %d: %v", i, p.Status())
		}
		if got := p.Read(pads); got != c.want {
			t.Errorf("step %d: %X", i, got)
		}
	}
}

// P12.3: what is disabled is written, and the timer is answered; registers 0 and 1 change the buffer alone.
func TestWriteIrq(t *testing.T) {
	p := plain(t)
	p.Write(running, 1)
	p.To(every)
	want := api.Status{Left: every, On: true, Due: true}
	for _, c := range []struct {
		off      uint16
		b        byte
		disabled byte
		due      bool
	}{{0x1400, 7, 0, true}, {0x1401, 7, 0, true}, {disable, 0xFD, 5, true}, {0x1400, 0, 5, true}, {0x1401, 0, 5, true}, {asked, 0, 5, false}, {disable, 8, 0, false}, {asked, 255, 0, false}} {
		p.Write(c.off, c.b)
		want.Latch, want.Disable, want.Due = c.b, c.disabled, c.due
		if p.Status() != want {
			t.Errorf("%d at %X: %v", c.b, c.off, p.Status())
		}
	}
}

// P12.4: what is chosen of lines that stand, masked and not, by their order.
func TestChoose(t *testing.T) {
	all := []api.Edge{up(1, 0), up(1, 1), up(1, 2), up(1, 3)}
	for set := range 16 {
		var l []api.Edge
		for n, e := range all {
			if set>>n&1 == 1 {
				l = append(l, e)
			}
		}
		for disabled := range byte(8) {
			for _, on := range []byte{0, 1} {
				p, m := made(t, api.Feeds{}, l...), modelOf(api.Feeds{}, l)
				for _, w := range []struct {
					off uint16
					b   byte
				}{{running, on}, {disable, disabled}} {
					p.Write(w.off, w.b)
					m.write(w.off, w.b)
				}
				p.To(every)
				m.to(every)
				if !alike(p, m) || !chooses(p, m.choose(false), m.choose(true)) {
					t.Errorf("lines %b, %d disabled, timer %d: %d, %d masked", set, disabled, on, p.Choose(false), p.Choose(true))
				}
			}
		}
	}
}

// P12.4: masked, or disabled, irq1 and irq2 don't come; reset and nmi do.
func TestChooseMasked(t *testing.T) {
	p := made(t, api.Feeds{}, up(1, api.LineReset), up(1, api.LineNmi), up(1, api.LineIrq1), up(1, api.LineIrq2), down(2, api.LineReset))
	p.Write(disable, 7)
	if p.To(1); !chooses(p, api.ByReset, api.ByReset) {
		t.Error("reset")
	}
	if p.To(2); !chooses(p, api.ByNmi, api.ByNmi) {
		t.Error("nmi")
	}
	if p.Entered(api.ByNmi); !chooses(p, api.Nothing, api.Nothing) {
		t.Error("all disabled")
	}
	if p.Write(disable, 2); !chooses(p, api.ByIrq2, api.Nothing) {
		t.Error("irq1 disabled")
	}
	if p.Write(disable, 1); !chooses(p, api.ByIrq1, api.Nothing) {
		t.Error("irq2 disabled")
	}
}

// P12.4: of nmi counts that it rose: till it is entered, down again or not, and then not till it rises again.
func TestEnteredNmi(t *testing.T) {
	p := made(t, api.Feeds{}, up(10, api.LineNmi), down(20, api.LineNmi), up(30, api.LineNmi), up(40, api.LineNmi))
	for _, stamp := range []int64{10, 15, 20, 25} {
		if p.To(stamp); !chooses(p, api.ByNmi, api.ByNmi) || !p.Status().Nmi {
			t.Errorf("at %d: nmi didn't rise", stamp)
		}
	}
	before := p.Status()
	p.Entered(api.ByNmi)
	if before.Nmi = false; p.Status() != before || !chooses(p, api.Nothing, api.Nothing) {
		t.Errorf("entered: %v", p.Status())
	}
	if p.To(30); !chooses(p, api.ByNmi, api.ByNmi) {
		t.Error("it rose again")
	}
	p.Entered(api.ByNmi)
	if p.To(50); !chooses(p, api.Nothing, api.Nothing) {
		t.Error("up again, having been up")
	}
}

// busy is a page all of whose registers are other than a new one's.
func busy(t *testing.T) *hard.Page {
	t.Helper()
	p := made(t, told(), up(5, api.LineNmi), up(5, api.LineIrq1), up(9000, api.LineIrq2))
	p.Write(reload, 9)
	p.Write(running, 1)
	p.Write(reload, 2)
	p.To(10*every + 100)
	p.Write(pads, 1)
	p.Read(pads)
	p.Read(pads)
	p.Read(pads)
	p.Read(0)
	p.Read(0)
	p.Read(1024)
	p.Write(disable, 2)
	p.Write(psg, 0xE9)
	return p
}

// busyStatus is its registers.
func busyStatus() api.Status {
	return api.Status{Latch: 0xE9, Reload: 2, Counter: 2, Disable: 2, Select: 1, Left: every - 100, On: true, Due: true, Nmi: true, Vdc: 2, Vce: 1, Port: 3}
}

// P12.4: a reset makes that the timer stands still, nothing is disabled, and the timer doesn't ask; all else stays.
func TestEnteredReset(t *testing.T) {
	p, want := busy(t), busyStatus()
	p.Entered(api.ByReset)
	want.On, want.Due, want.Disable = false, false, 0
	if p.Status() != want || p.Now() != 10*every+100 || !chooses(p, api.ByNmi, api.ByNmi) {
		t.Errorf("a reset: %v", p.Status())
	}
	if p.To(50 * every); p.Status() != want {
		t.Errorf("behind a reset: %v", p.Status())
	}
	p.Entered(api.ByNmi)
	if !chooses(p, api.ByIrq1, api.Nothing) {
		t.Error("a reset, and lines that stand")
	}
	if p.Write(running, 1); p.Status().Counter != 2 || p.Status().Left != every {
		t.Errorf("turned on behind a reset: %v", p.Status())
	}
}

// P12.4: of nothing, of other kinds, and of no kind nothing happens.
func TestEnteredOther(t *testing.T) {
	for kind := range 256 {
		if kind == api.ByReset || kind == api.ByNmi {
			continue
		}
		p := busy(t)
		if p.Entered(uint8(kind)); p.Status() != busyStatus() || p.Now() != 10*every+100 {
			t.Errorf("kind %d: %v", kind, p.Status())
		}
	}
}

// P12.5: all registers, each of them, ahead of a change and behind it.
func TestStatus(t *testing.T) {
	p := busy(t)
	if p.Status() != busyStatus() || p.Status() != busyStatus() {
		t.Errorf("all registers: %v", p.Status())
	}
	want := busyStatus()
	for i, c := range []struct{ do, so func() }{
		{func() { p.Read(reload) }, func() { want.Latch = 0x82 }},
		{func() { p.Read(disable) }, func() { want.Latch = 0x82 }},
		{func() { p.Read(asked) }, func() { want.Latch = 0x87 }},
		{func() { p.Write(reload, 0xFF) }, func() { want.Latch, want.Reload = 0xFF, 127 }},
		{func() { p.To(11*every - 1) }, func() { want.Left = 1 }},
		{func() { p.To(11 * every) }, func() { want.Left, want.Counter = every, 1 }},
		{func() { p.To(11*every + 1) }, func() { want.Left = every - 1 }},
		{func() { p.Read(reload) }, func() { want.Latch = 0x81 }},
		{func() { p.Read(pads) }, func() { want.Latch, want.Port = 0xB8, 4 }},
		{func() { p.Write(pads, 2) }, func() { want.Latch, want.Select = 2, 2 }},
		{func() { p.Read(pads) }, func() { want.Latch = 0xB0 }},
		{func() { p.Read(1023) }, func() { want.Vdc = 3 }},
		{func() { p.Read(2047) }, func() { want.Vce = 2 }},
		{func() { p.Write(asked, 1) }, func() { want.Latch, want.Due = 1, false }},
		{func() { p.Write(disable, 4) }, func() { want.Latch, want.Disable = 4, 4 }},
		{func() { p.Write(running, 0) }, func() { want.Latch, want.On = 0, false }},
		{func() { p.Entered(api.ByNmi) }, func() { want.Nmi = false }},
	} {
		c.do()
		if c.so(); p.Status() != want {
			t.Errorf("change %d: %v, not %v", i, p.Status(), want)
		}
	}
}

// reads tells whether two pages read alike from now on, and are alike then.
func reads(p, q *hard.Page) bool {
	for _, off := range []uint16{0, 1024, psg, pads, reload, disable, asked, 0x1800, 0, 1024, pads, pads, 0x1400} {
		if p.Read(off) != q.Read(off) {
			return false
		}
	}
	return p.Status() == q.Status() && p.Now() == q.Now() && p.Choose(false) == q.Choose(false) && p.Choose(true) == q.Choose(true)
}

// P12.5, P5: a clone is alike, another one, and apart, whichever of both goes on.
func TestClone(t *testing.T) {
	p := busy(t)
	c := p.Clone()
	if c == nil || c == p || c.Status() != busyStatus() || c.Now() != p.Now() || !chooses(c, api.ByNmi, api.ByNmi) {
		t.Fatal("a clone isn't alike, or isn't another one")
	}
	// all that can be done to it
	c.To(20 * every)
	for _, off := range []uint16{0, 1024, pads, reload, asked} {
		c.Read(off)
	}
	c.Entered(api.ByNmi)
	c.Entered(api.ByReset)
	for _, off := range []uint16{psg, reload, running, pads, disable, asked} {
		c.Write(off, 0x55)
	}
	if p.Status() != busyStatus() || p.Now() != 10*every+100 || !chooses(p, api.ByNmi, api.ByNmi) {
		t.Errorf("a clone goes on, and the first one with it: %v", p.Status())
	}
	s, now := c.Status(), c.Now()
	d := p.Clone()
	p.To(30 * every)
	p.Entered(api.ByNmi)
	p.Write(running, 0)
	p.Write(disable, 7)
	if p.Read(0); c.Status() != s || c.Now() != now || d.Status() != busyStatus() {
		t.Error("the first one goes on, and its clones with it")
	}
	if e := d.Clone(); !reads(d, busy(t)) || !reads(e, busy(t)) {
		t.Error("a clone reads otherwise")
	}
}

// P12.5: a clone goes on as the first one does, by its feeds, its lines and its timer.
func TestCloneGoesOn(t *testing.T) {
	p := made(t, told(), up(5, api.LineNmi), up(90, api.LineIrq1), up(9000, api.LineIrq2), down(9500, api.LineIrq1))
	p.Write(running, 1)
	p.Write(reload, 3)
	p.Read(0)
	for _, stamp := range []int64{0, 4, 5, 89, 90, every, 9000, 9499, 9500, 20000} {
		c := p.Clone()
		c.To(stamp)
		if p.To(stamp); !reads(p, c) {
			t.Errorf("at %d: a clone goes on otherwise", stamp)
		}
	}
	for range 5 {
		if c := p.Clone(); !reads(p, c) {
			t.Error("a clone reads otherwise")
		}
	}
}

// P3: the lists stay, spare room too; what the caller changes of them afterwards doesn't touch the page, nor its clone.
func TestKeepsGiven(t *testing.T) {
	vdc, vce, port := []byte{1, 2, 3, 4}, []byte{5, 6, 7}, []byte{8, 9, 10}
	edges := []api.Edge{up(10, api.LineIrq1), down(20, api.LineIrq1), up(30, api.LineReset)}
	p := made(t, api.Feeds{Vdc: vdc[:3], Vce: vce[:2], Port: port[:2]}, edges[:2]...)
	c := p.Clone()
	for _, off := range []uint16{0, 0, 0, 0, 1024, 1024, 1024, pads, pads, pads} {
		c.Read(off)
	}
	for _, off := range []uint16{0, 1024, psg, reload, pads, disable} {
		c.Write(off, 0xAA)
	}
	c.To(100)
	if !slices.Equal(vdc, []byte{1, 2, 3, 4}) || !slices.Equal(vce, []byte{5, 6, 7}) || !slices.Equal(port, []byte{8, 9, 10}) ||
		!slices.Equal(edges, []api.Edge{up(10, api.LineIrq1), down(20, api.LineIrq1), up(30, api.LineReset)}) {
		t.Error("a list that was given is changed")
	}
	if !chooses(c, api.Nothing, api.Nothing) {
		t.Error("an edge behind a list's end")
	}
	c = p.Clone()
	clear(vdc)
	clear(vce)
	clear(port)
	edges[0], edges[1] = up(1, api.LineReset), up(1, api.LineReset)
	for _, q := range []*hard.Page{p, c} {
		for i, want := range []byte{1, 2, 3, 255} {
			if got := q.Read(0); got != want {
				t.Errorf("VDC's byte %d, changed: %d", i, got)
			}
		}
		if q.Read(1024) != 5 || q.Read(1024) != 6 || q.Read(1024) != 255 || q.Read(pads) != 0xB8 || q.Read(pads) != 0xB9 || q.Read(pads) != 0xBF {
			t.Error("a list that was changed is read")
		}
		if q.To(15); !chooses(q, api.ByIrq1, api.Nothing) {
			t.Error("edges that were changed")
		}
		if q.To(20); !chooses(q, api.Nothing, api.Nothing) {
			t.Error("edges that were changed, and down")
		}
	}
}

// P5: pages have nothing to do with one another.
func TestApart(t *testing.T) {
	f, l := told(), []api.Edge{up(5, api.LineIrq1)}
	p, q := made(t, f, l...), made(t, f, l...)
	p.Write(running, 1)
	p.To(7 * every)
	p.Read(0)
	p.Read(1024)
	p.Read(pads)
	p.Write(disable, 3)
	if q.Status() != first() || q.Now() != 0 || !chooses(q, 0, 0) || q.Read(0) != 0x11 || q.Read(1024) != 0x21 || q.Read(pads) != 0xBA {
		t.Error("a page goes on with another one")
	}
}

// P12.5, P1: of nil everything is 0, 255 or nil, and nothing happens.
func TestNil(t *testing.T) {
	var p *hard.Page
	for _, stamp := range []int64{math.MinInt64, -1, 0, 1, every, math.MaxInt64} {
		if p.To(stamp); p.Now() != 0 {
			t.Errorf("a nil page, To(%d)", stamp)
		}
	}
	for off := range 1 << 16 {
		if p.Write(uint16(off), 0x5A); p.Read(uint16(off)) != 255 {
			t.Fatalf("a nil page at %X", off)
		}
	}
	for kind := range 256 {
		p.Entered(uint8(kind))
	}
	if p.Choose(false) != api.Nothing || p.Choose(true) != api.Nothing || p.Status() != (api.Status{}) || p.Clone() != nil {
		t.Error("a nil page")
	}
}

// P1: a page that no call made is as a new one of no bytes and no edges.
func TestUnmade(t *testing.T) {
	p := &hard.Page{}
	c := p.Clone()
	if p.Status() != first() || p.Now() != 0 || !chooses(p, 0, 0) || c == nil || c == p || c.Status() != first() {
		t.Error("a page that no call made")
	}
	m := modelOf(api.Feeds{}, nil)
	play(t, p, m, 1, 2000)
	play(t, c, modelOf(api.Feeds{}, nil), 2, 2000)
	for kind := range 256 {
		(&hard.Page{}).Entered(uint8(kind))
	}
	if q := (&hard.Page{}).Read(0x1800); q != 255 {
		t.Error("a page that no call made, where nothing is")
	}
}

// play does many things to a page, and to its model, which are to be alike all the while.
func play(t *testing.T, p *hard.Page, m *model, seed uint32, steps int) {
	t.Helper()
	offs := []uint16{0, 1, 1023, 1024, 2047, psg, 2050, 3071, reload, running, 3074, 4095, pads, 4099, 5119, 0x1400, 0x1401, disable, asked, 6140, 6143, 0x1800, 8191}
	n := seed
	for i := range steps {
		n = n*1664525 + 1013904223
		off, b := offs[n>>8%uint32(len(offs))]+uint16(n>>24)&0xE000, byte(n>>16)
		switch n >> 29 {
		case 0, 1:
			if got, want := p.Read(off), m.read(off); got != want {
				t.Fatalf("step %d, at %X: %X, not %X", i, off, got, want)
			}
		case 2, 3:
			p.Write(off, b)
			m.write(off, b)
		case 4:
			// few ticks each, so that the timer is over now and then
			p.Write(reload, b%4)
			m.write(reload, b%4)
		case 5:
			p.Entered(b % 8)
			m.entered(b % 8)
		default:
			stamp := m.now + int64(n>>12%2500) - 100
			p.To(stamp)
			m.to(stamp)
		}
		if !alike(p, m) {
			t.Fatalf("step %d: %v, not %v", i, p.Status(), m.s)
		}
	}
}

// edges is many edges, of all lines.
func edges(seed uint32) []api.Edge {
	l, stamp := make([]api.Edge, 0, 900), int64(0)
	for range cap(l) {
		seed = seed*1664525 + 1013904223
		stamp += int64(seed >> 8 % 1500)
		l = append(l, api.Edge{Stamp: stamp, Line: uint8(seed >> 28 % 4), Up: seed>>25%8 < 3})
	}
	return l
}

// P12.1 to P12.5: whatever is done, a page is as the chapters tell it.
func TestAsTold(t *testing.T) {
	bytes := make([]byte, 2000)
	for i := range bytes {
		bytes[i] = byte(i*0x13 + 0x2C)
	}
	for seed := range uint32(20) {
		f, l := api.Feeds{Vdc: bytes[:700], Vce: bytes[700:1000], Port: bytes[1000:]}, edges(seed)
		play(t, made(t, f, l...), modelOf(f, l), seed, 5000)
	}
}

// P12.6: gone on in parts a page is as gone on at once, wherever the parts end.
func TestParts(t *testing.T) {
	for seed := range uint32(8) {
		l := edges(seed)
		end := l[len(l)-1].Stamp + 5*every
		for _, step := range []int64{1, 3, 12, 24, 1000, every - 1, every, every + 1, 7*every + 5} {
			p := made(t, told(), l...)
			p.Write(reload, byte(seed))
			p.Write(running, 1)
			at := p.Clone()
			for stamp := step; stamp < end; stamp += step {
				p.To(stamp)
			}
			p.To(end)
			if at.To(end); !reads(p, at) {
				t.Errorf("edges %d, parts of %d: %v, at once %v", seed, step, p.Status(), at.Status())
			}
		}
	}
}

// P12.6: parts with stamps among them that lie behind, which are none.
func TestPartsBehind(t *testing.T) {
	l := edges(99)
	p, at := made(t, told(), l...), made(t, told(), l...)
	p.Write(running, 1)
	at.Write(running, 1)
	for _, stamp := range []int64{0, 1, 5000, 4999, 5000, -7, 5001, 3 * every, 0, 100000} {
		p.To(stamp)
	}
	if at.To(100000); !reads(p, at) {
		t.Errorf("%v, at once %v", p.Status(), at.Status())
	}
}

// Ways: a page has the timer's and the lines' methods as its own.
func TestOwn(t *testing.T) {
	p := made(t, api.Feeds{}, up(4, api.LineIrq2))
	p.Write(reload, 6)
	p.Write(running, 1)
	p.To(4 + every)
	if p.Counter() != 5 || p.Reload() != 6 || p.Left() != every-4 || !p.On() || !p.Up(api.LineIrq2) || p.Rose() || p.Seen() != 1 {
		t.Error("the timer's and the lines' methods")
	}
}

// The example of the chapter.
func TestExample(t *testing.T) {
	p := plain(t)
	if p.Write(0x1402, 7); p.Read(0x1402) != 7 {
		t.Error("what is disabled")
	}
	if p.Write(0x0C00, 0xFF); p.Read(0x0C00) != 0x80 {
		t.Error("the counter, and the buffer's highest bit")
	}
}
