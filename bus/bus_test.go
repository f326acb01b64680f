package bus_test

import (
	"fmt"
	"math"
	"slices"
	"testing"

	"gannet/api"
	"gannet/bus"
	"gannet/cart"
	"gannet/hard"
	"gannet/phys"
)

// Where devices have their registers.
const (
	vdc     = 0x1FE000
	vce     = 0x1FE400
	psg     = 0x1FE800
	reload  = 0x1FEC00
	running = 0x1FEC01
	pads    = 0x1FF000
	disable = 0x1FF402
	asked   = 0x1FF403
	open    = 0x1FF800
)

// around is as many addresses as there are.
const around = 1 << 21

// image is so many pages, of which no two neighbours are alike, nor two bytes that are near each other.
func image(pages int) []byte {
	rom := make([]byte, pages*api.PageSize)
	for i := range rom {
		rom[i] = byte(i%251 + 7*(i/api.PageSize))
	}
	return rom
}

// told is feeds of a few bytes, no two of them alike.
func told() api.Feeds {
	return api.Feeds{Vdc: []byte{0x11, 0x12, 0x13}, Vce: []byte{0x21, 0x22}, Port: []byte{0x5A, 0x6B, 0x7C, 0x8D}}
}

// up and down are edges.
func up(stamp int64, line uint8) api.Edge   { return api.Edge{Stamp: stamp, Line: line, Up: true} }
func down(stamp int64, line uint8) api.Edge { return api.Edge{Stamp: stamp, Line: line} }

// page is a page of the feeds that are told, and of edges.
func page(t *testing.T, edges ...api.Edge) *hard.Page {
	t.Helper()
	p, f := hard.New(told(), edges)
	if p == nil || f != (api.Fault{}) {
		t.Fatalf("a page of feeds and edges that may be: %v", f)
	}
	return p
}

// made is a bus of an image of two pages.
func made(t *testing.T, budget int64, edges ...api.Edge) *bus.Bus {
	t.Helper()
	return bus.New(image(2), page(t, edges...), budget)
}

// quick is a bus that is fast, of which no access was asked for.
func quick(t *testing.T, budget int64, edges ...api.Edge) *bus.Bus {
	t.Helper()
	b := made(t, budget, edges...)
	b.Ask(true)
	b.Turn()
	return b
}

// model is a bus as the chapter tells it: memory byte by byte, time as a number, beside a page of its own.
type model struct {
	rom   []byte
	ram   [8192]byte
	page  *hard.Page
	now   int64
	fast  bool
	next  []bool
	left  int64
	over  bool
	trace []api.Access
}

// modelOf is a new bus'.
func modelOf(rom []byte, p *hard.Page, budget int64) *model {
	return &model{rom: rom, page: p, left: min(max(budget, 0), 1<<40)}
}

// access is an access: what is read.
func (m *model) access(a uint32, v byte, kind uint8, write bool) byte {
	if m.left == 0 {
		m.over = true
		return 255
	}
	a %= around
	bank, off := a/8192, a%8192
	x := api.Access{Stamp: m.now, Addr: a, Kind: kind, Write: write, Data: v}
	long := int64(12)
	if m.fast {
		long = 3
	}
	if bank == 255 && off < 2048 {
		long *= 2
	}
	m.left--
	m.now += long
	m.page.To(x.Stamp)
	if write {
		m.put(a, v)
	} else {
		x.Data = m.get(a)
	}
	m.trace = append(m.trace, x)
	return x.Data
}

// get is what is read at an address.
func (m *model) get(a uint32) byte {
	if a/8192 == 255 {
		return m.page.Read(uint16(a % 8192))
	}
	return m.peek(a)
}

// put writes to an address.
func (m *model) put(a uint32, v byte) {
	switch bank := a / 8192; {
	case bank == 255:
		m.page.Write(uint16(a%8192), v)
	case 248 <= bank && bank <= 251:
		m.ram[a%8192] = v
	}
}

// peek is the byte of the image, or of work memory; 255 of all else.
func (m *model) peek(a uint32) byte {
	a %= around
	switch bank := a / 8192; {
	case bank < 128 && int(a) < len(m.rom):
		return m.rom[a]
	case 248 <= bank && bank <= 251:
		return m.ram[a%8192]
	}
	return 255
}

// turn is a boundary.
func (m *model) turn() {
	if len(m.next) > 0 {
		m.fast = m.next[len(m.next)-1]
	}
	m.next = nil
}

// entered tells that something is.
func (m *model) entered(kind uint8) {
	m.page.Entered(kind)
	if kind == 1 {
		m.next = append(m.next, false)
	}
}

// filled is work memory, of pieces.
func filled(t *testing.T, l []api.Piece) [8192]byte {
	t.Helper()
	var all [8192]byte
	for _, p := range l {
		if len(p.Bytes) == 0 || p.At < 0 || p.At+len(p.Bytes) > len(all) {
			t.Fatalf("a piece at %d, of %d bytes", p.At, len(p.Bytes))
		}
		copy(all[p.At:], p.Bytes)
	}
	return all
}

// unlike is what of a bus isn't as a model has it; nothing, if all is.
func unlike(t *testing.T, b *bus.Bus, m *model) string {
	t.Helper()
	switch {
	case b.Left() != m.left || b.Over() != m.over:
		return fmt.Sprintf("left %d, %v, not %d, %v", b.Left(), b.Over(), m.left, m.over)
	case b.Now() != m.now || b.Fast() != m.fast:
		return fmt.Sprintf("at %d, fast %v, not %d, %v", b.Now(), b.Fast(), m.now, m.fast)
	case !slices.Equal(b.Trace(), m.trace):
		return fmt.Sprintf("trace %v, not %v", b.Trace(), m.trace)
	case filled(t, b.Ram()) != m.ram:
		return fmt.Sprintf("memory %v", b.Ram())
	case b.Status() != m.page.Status():
		return fmt.Sprintf("status %v, not %v", b.Status(), m.page.Status())
	case b.Choose(false) != m.page.Choose(false) || b.Choose(true) != m.page.Choose(true):
		return fmt.Sprintf("chooses %d, %d", b.Choose(false), b.Choose(true))
	}
	return ""
}

// last is the access that was told last.
func last(t *testing.T, b *bus.Bus) api.Access {
	t.Helper()
	l := b.Trace()
	if len(l) == 0 {
		t.Fatal("nothing is told")
	}
	return l[len(l)-1]
}

// places is addresses in each part: its first and its last one, and some between.
func places() []uint32 {
	return []uint32{
		0, 1, 0x1FFE, 0x1FFF, 0x2000, 0x3FFF, 0x4000, 0x5ABC, 0xFDFFF, 0xFE000, 0xFFFFF, // the image, and where it would be
		0x100000, 0x123456, 0x1EFFFF, // open
		0x1F0000, 0x1F0001, 0x1F1FFF, 0x1F2000, 0x1F3FFF, 0x1F4000, 0x1F5FFF, 0x1F6000, 0x1F7ABC, 0x1F7FFF, // work memory
		0x1F8000, 0x1FA000, 0x1FDFFF, // open
		vdc, vdc + 1, vdc + 2, vdc + 3, vdc + 1023, vce, vce + 1, vce + 4, vce + 1023, // an extra cycle
		psg, psg + 9, psg + 1023, reload, running, reload + 1023, pads, pads + 1, pads + 1023,
		disable - 2, disable - 1, disable, asked, disable + 1020, asked + 1020, open, open + 1, 0x1FFFFF,
	}
}

// P19.1: a new bus: nothing was told, nothing is in memory, time stands at 0, slow; the page is as it was.
func TestNew(t *testing.T) {
	for i, edges := range [][]api.Edge{nil, {up(0, api.LineReset), up(24, api.LineNmi)}} {
		b := made(t, 10, edges...)
		if u := unlike(t, b, modelOf(image(2), page(t, edges...), 10)); u != "" || b.Cycles() != 0 {
			t.Errorf("a new one of edges %d: %s", i, u)
		}
	}
	if p := page(t); bus.New(nil, p, 1) == bus.New(nil, p, 1) {
		t.Error("two new ones are one")
	}
}

// P19.1, P3: the image isn't changed, and a copy is kept.
func TestNewImage(t *testing.T) {
	rom, spare := image(3), []byte{1, 2, 3}
	rom = append(rom, spare...)[:len(rom)]
	held := slices.Clone(rom)
	b := bus.New(rom, page(t), 1000)
	for _, a := range []uint32{0, 5, 0x2000, 0x5FFF, 0x6000} {
		b.Write(a, 99, api.Store)
	}
	if !slices.Equal(rom, held) || !slices.Equal(rom[:len(rom)+3][len(rom):], spare) {
		t.Error("the image is changed")
	}
	for i := range rom {
		rom[i] ^= 0xFF
	}
	for _, a := range []uint32{0, 1, 0x1FFF, 0x2000, 0x5FFF} {
		if got := b.Read(a, api.Load); got != held[a] || b.Peek(a) != held[a] {
			t.Errorf("%#x: %#x, not %#x: the caller changes it", a, got, held[a])
		}
	}
}

// P19.1, P1: of no image, and of bytes that are none: what lies there, or 255.
func TestNewNoImage(t *testing.T) {
	odd := []byte{5, 6, 7}
	for _, rom := range [][]byte{nil, {}, odd, make([]byte, 129*api.PageSize)} {
		b := bus.New(rom, page(t), 1000)
		for _, a := range []uint32{0, 2, 3, 8191, 8192, 0xFFFFF, 0x100000} {
			want := cart.Read(rom, a)
			if got := b.Read(a, api.Load); got != want || b.Peek(a) != want || last(t, b).Data != want {
				t.Errorf("%d bytes, %#x: %#x, not %#x", len(rom), a, got, want)
			}
		}
		if got := b.Read(0x1F0000, api.Load); got != 0 {
			t.Errorf("%d bytes: memory has %#x", len(rom), got)
		}
	}
}

// P19.1: the page is that of the caller, on which the bus works.
func TestNewPage(t *testing.T) {
	p := page(t)
	b := bus.New(nil, p, 10)
	b.Write(disable, 5, api.Store)
	b.Read(vdc, api.Load)
	if s := p.Status(); s.Disable != 5 || s.Vdc != 1 || s.Latch != 5 || p.Now() != 12 || b.Status() != s {
		t.Errorf("%v, at %d", s, p.Now())
	}
	p.Write(0x1402, 3)
	if b.Status().Disable != 3 || b.Read(disable, api.Load) != 3 {
		t.Errorf("%v", b.Status())
	}
}

// P19.1: a page that went on already goes on from there.
func TestNewPageAhead(t *testing.T) {
	p := page(t, up(30, api.LineIrq1), up(60, api.LineReset))
	p.To(50)
	b := bus.New(nil, p, 100)
	for range 5 {
		if b.Read(0, api.Fetch); p.Now() != 50 || b.Choose(false) != api.ByIrq1 {
			t.Errorf("at %d", p.Now())
		}
	}
	if b.Read(0, api.Fetch); p.Now() != 60 || b.Choose(false) != api.ByReset || last(t, b).Stamp != 60 {
		t.Errorf("at %d", p.Now())
	}
}

// P19.1: budgets below 0 are 0, such as are above the greatest one that one.
func TestNewBudget(t *testing.T) {
	for budget, want := range map[int64]int64{
		math.MinInt64: 0, math.MinInt32: 0, -1: 0, 0: 0, 1: 1, 2: 2, 1000: 1000, api.MaxBudget - 1: api.MaxBudget - 1,
		api.MaxBudget: api.MaxBudget, api.MaxBudget + 1: api.MaxBudget, math.MaxInt64: api.MaxBudget,
	} {
		b := made(t, budget)
		if b.Left() != want || b.Over() {
			t.Errorf("%d: left %d, %v", budget, b.Left(), b.Over())
		}
		b.Read(0, api.Fetch)
		if b.Left() != max(want-1, 0) || b.Over() != (want == 0) || int64(len(b.Trace())) != min(want, 1) {
			t.Errorf("%d, behind an access: left %d, %v", budget, b.Left(), b.Over())
		}
	}
}

// P19.1: pieces are laid in one behind the other, over what is there; all else stays, and no access is taken.
func TestFill(t *testing.T) {
	all := make([]byte, 8192)
	for i := range all {
		all[i] = byte(i%255 + 1)
	}
	for i, l := range [][]api.Piece{
		nil, {}, {{}}, {{At: 8192}}, {{At: 0, Bytes: []byte{7}}}, {{At: 8191, Bytes: []byte{7}}}, {{At: 8190, Bytes: []byte{7, 8}}}, {{At: 0, Bytes: all}},
		{{At: 10, Bytes: []byte{1, 2, 3, 4, 5}}, {At: 12, Bytes: []byte{0, 0}}, {At: 8, Bytes: []byte{8, 9, 10}}},
		{{At: 5000, Bytes: []byte{9}}, {At: 63, Bytes: []byte{1, 1}}, {At: 5000, Bytes: []byte{0}}},
		{{At: 0, Bytes: all}, {At: 100, Bytes: make([]byte, 1000)}, {At: 8191, Bytes: []byte{0}}},
	} {
		b, m := made(t, 10), modelOf(image(2), page(t), 10)
		for _, p := range [][]api.Piece{{{At: 9, Bytes: []byte{55, 56, 57}}, {At: 8000, Bytes: []byte{58}}}, l} {
			if f := b.Fill(p); f != (api.Fault{}) {
				t.Errorf("pieces %d: %v", i, f)
			}
			for _, x := range p {
				copy(m.ram[x.At:], x.Bytes)
			}
			if u := unlike(t, b, m); u != "" {
				t.Errorf("pieces %d: %s", i, u)
			}
		}
	}
}

// P19.1, P2: the first piece that doesn't lie within is told, and nothing is laid, of those ahead of it neither.
func TestFillBeyond(t *testing.T) {
	good := api.Piece{At: 3, Bytes: []byte{9, 9}}
	for _, bad := range []api.Piece{
		{At: -1}, {At: 8193}, {At: -1, Bytes: []byte{1, 2}}, {At: 8192, Bytes: []byte{1}}, {At: 8191, Bytes: []byte{1, 2}}, {At: 0, Bytes: make([]byte, 8193)},
		{At: math.MaxInt, Bytes: []byte{1}}, {At: math.MinInt, Bytes: []byte{1}}, {At: math.MaxInt}, {At: 65536, Bytes: []byte{1}},
	} {
		for at, l := range [][]api.Piece{{bad, good}, {good, bad}, {good, good, bad, good, bad}} {
			b, m := made(t, 10), modelOf(image(2), page(t), 10)
			b.Fill([]api.Piece{{At: 4, Bytes: []byte{77}}})
			m.ram[4] = 77
			if f, want := b.Fill(l), (api.Fault{Errno: api.ErrRange, At: at}); f != want {
				t.Errorf("at %d, %d bytes: %v, not %v", bad.At, len(bad.Bytes), f, want)
			}
			if u := unlike(t, b, m); u != "" {
				t.Errorf("at %d, %d bytes: %s", bad.At, len(bad.Bytes), u)
			}
		}
	}
}

// P3: the pieces are the caller's.
func TestFillApart(t *testing.T) {
	b, l := made(t, 10), []api.Piece{{At: 5, Bytes: []byte{1, 2, 3, 4}[:3]}}
	b.Fill(l)
	b.Write(0x1F0006, 9, api.Store)
	b.Write(0x1F0008, 9, api.Store)
	if !slices.Equal(l[0].Bytes[:4], []byte{1, 2, 3, 4}) || l[0].At != 5 {
		t.Errorf("changed: %v", l)
	}
	l[0].Bytes[0] = 42
	if b.Peek(0x1F0005) != 1 || b.Peek(0x1F0006) != 9 {
		t.Errorf("the caller changes it: %v", b.Ram())
	}
}

// P19.2: the image's bytes, in each of its pages, wherever the address goes round.
func TestReadImage(t *testing.T) {
	for _, pages := range []int{1, 2, 3, 64, 128} {
		rom := image(pages)
		b := bus.New(rom, page(t), 100000)
		for n := range 128 {
			for _, off := range []int{0, 1, 4095, 8191} {
				at, want := n*8192+off, byte(255)
				if n < pages {
					want = rom[at]
				}
				for _, over := range []uint32{0, around, 5 * around, 0xFFE00000} {
					got := b.Read(uint32(at)+over, api.Operand)
					if x := last(t, b); got != want || x.Data != want || x.Addr != uint32(at) {
						t.Fatalf("%d pages, %#x: %#x, not %#x; %v", pages, uint32(at)+over, got, want, x)
					}
				}
			}
		}
	}
}

// P19.2: work memory is one, in each of its four banks, and has as many places as one of them.
func TestWorkMemory(t *testing.T) {
	for i, off := range []uint32{0, 1, 63, 64, 4095, 8190, 8191} {
		b := made(t, 1000)
		for n := range uint32(4) {
			a, v := 0x1F0000+n*8192+off+n*around, byte(i*4)+byte(n)+1
			b.Write(a, v, api.Push)
			for k := range uint32(4) {
				if got := b.Read(0x1F0000+k*8192+off, api.Pull); got != v {
					t.Errorf("%#x, written at %#x: %#x, not %#x", 0x1F0000+k*8192+off, a, got, v)
				}
			}
			if l := b.Ram(); len(l) != 1 || l[0].At != int(off) || !slices.Equal(l[0].Bytes, []byte{v}) {
				t.Errorf("%#x: %v", a, l)
			}
		}
		b.Write(0x1F0000+off, 0, api.Store)
		if got := b.Read(0x1F6000+off, api.Load); got != 0 || len(b.Ram()) != 0 {
			t.Errorf("%#x: %#x", off, got)
		}
	}
	b := made(t, 10)
	for _, a := range []uint32{0x1EFFFF, 0x1F8000, 0x1FDFFF} {
		if b.Write(a, 9, api.Store); len(b.Ram()) != 0 || b.Read(a, api.Load) != 255 {
			t.Errorf("%#x is memory", a)
		}
	}
}

// P19.2: what is open is read as 255, in each bank that is.
func TestOpen(t *testing.T) {
	b := made(t, 100000)
	s := b.Status()
	for bank := uint32(128); bank < 255; bank++ {
		if 248 <= bank && bank <= 251 {
			continue
		}
		for _, off := range []uint32{0, 1024, 3072, 0x1402, 8191} {
			b.Write(bank*8192+off, 5, api.Store)
			if got := b.Read(bank*8192+off, api.Load); got != 255 || last(t, b).Data != 255 {
				t.Errorf("%#x: %#x", bank*8192+off, got)
			}
		}
	}
	for off := uint32(6144); off < 8192; off++ {
		b.Write(vdc+off, 5, api.Store)
		if got := b.Read(vdc+off, api.Load); got != 255 || last(t, b).Data != 255 {
			t.Errorf("%#x: %#x", vdc+off, got)
		}
	}
	if b.Status() != s || len(b.Ram()) != 0 {
		t.Errorf("%v, not %v", b.Status(), s)
	}
}

// P19.2: each device of the last bank is read, and written.
func TestDevices(t *testing.T) {
	b := made(t, 1000, up(0, api.LineIrq2))
	read := func(a uint32, want byte) {
		t.Helper()
		if got := b.Read(a, api.Load); got != want || last(t, b).Data != want {
			t.Errorf("%#x: %#x, not %#x", a, got, want)
		}
	}
	write := func(a uint32, v byte) { b.Write(a, v, api.Store) }
	read(vdc, 0x11)
	read(vdc+1023, 0x12)
	read(vdc+around, 0x13)
	read(vdc, 255)
	read(vce+7, 0x21)
	read(vce, 0x22)
	read(vce, 255)
	read(psg, 0)
	write(psg+1, 0x80)
	read(psg, 0x80)
	write(reload+2, 0x85)
	read(reload, 0x80)
	write(running, 0x81)
	read(running, 0x85)
	read(pads, 0xBA)
	read(psg, 0xBA)
	write(pads, 1)
	read(pads+5, 0xB6)
	write(disable, 6)
	read(disable, 6)
	read(asked, 1)
	write(asked+around, 0xF0)
	read(asked, 0xF1)
	read(disable, 0xF6)
	read(disable-1, 0xF6)
	read(open, 255)
	write(vdc, 3)
	write(vce, 3)
	read(psg, 0xF6)
	s := api.Status{Latch: 0xF6, Reload: 5, Counter: 5, Disable: 6, Select: 1, Left: b.Status().Left, On: true, Vdc: 4, Vce: 3, Port: 2}
	if b.Status() != s {
		t.Errorf("%v, not %v", b.Status(), s)
	}
}

// P19.2: stamps of accesses at both speeds, with and without the cycle that is extra, whether something is read, or written.
func TestStamps(t *testing.T) {
	for _, fast := range []bool{false, true} {
		for _, write := range []bool{false, true} {
			b, now := made(t, 1000), int64(0)
			if fast {
				b = quick(t, 1000)
			}
			cycles := int64(0)
			for _, a := range places() {
				long := int64(12)
				if fast {
					long = 3
				}
				cycles++
				if vdc <= a && a < psg {
					long *= 2
					cycles++
				}
				if write {
					b.Write(a+around, 0, api.Store)
				} else {
					b.Read(a+around, api.Load)
				}
				if x := last(t, b); x.Stamp != now || b.Now() != now+long || x.Write != write {
					t.Errorf("fast %v, %#x: at %d, then %d, not %d and %d more", fast, a, x.Stamp, b.Now(), now, long)
				}
				now += long
			}
			if b.Cycles() != cycles {
				t.Errorf("fast %v: %d cycles, not %d", fast, b.Cycles(), cycles)
			}
		}
	}
}

// P19.2, P19.4: an access is told with its stamp, its address modulo 2^21, its kind, whether it writes, and its byte.
func TestTold(t *testing.T) {
	b := made(t, 1000)
	var want []api.Access
	stamp := int64(0)
	for _, kind := range []uint8{api.Fetch, api.Operand, api.Dummy, api.Load, api.Store, api.Push, api.Pull, api.Vector, 8, 77, 255} {
		for _, a := range []uint32{3, 0x1F0003, around + 0x2004, math.MaxUint32} {
			b.Write(a, 0xA0, kind)
			v := b.Read(a, kind)
			want = append(want, api.Access{Stamp: stamp, Addr: a % around, Kind: kind, Write: true, Data: 0xA0})
			want = append(want, api.Access{Stamp: stamp + 12, Addr: a % around, Kind: kind, Data: v})
			stamp += 24
		}
	}
	if got := b.Trace(); !slices.Equal(got, want) {
		t.Errorf("%v, not %v", got, want)
	}
}

// P19.2: the page has gone on to the stamp of an access, and no further, before that reads.
func TestGoneOnAheadOfRead(t *testing.T) {
	b := made(t, 1000, up(12, api.LineIrq1), up(25, api.LineIrq2), down(36, api.LineIrq1))
	for i, want := range []byte{0, 2, 2, 1, 1} {
		// At 0, 12, 24, 36, 48.
		if got := b.Read(asked, api.Load); got != want {
			t.Errorf("access %d: %d, not %d", i, got, want)
		}
	}
	f := quick(t, 10000)
	f.Write(reload, 2, api.Store)
	f.Write(running, 1, api.Store) // at 3
	for i := range 3 * 1024 {
		want := byte(2 - (i+1)/1024)
		if i == 3*1024-1 {
			want = 2
		}
		if got := f.Read(reload, api.Load) & 0x7F; got != want {
			t.Fatalf("at %d: counter %d, not %d", last(t, f).Stamp, got, want)
		}
	}
	if f.Choose(false) != api.ByTimer || !f.Status().Due {
		t.Errorf("%v", f.Status())
	}
}

// P19.2: it has gone on so before an access writes: what the timer asks till then is answered by it, what it asks later is not.
func TestGoneOnAheadOfWrite(t *testing.T) {
	const over = 12 + 3072 // the timer is turned on at 12, its reload is 0
	for _, answered := range []int64{over - 12, over, over + 12} {
		b := made(t, 10000)
		b.Read(0, api.Fetch)
		b.Write(running, 1, api.Store)
		for b.Now() < answered {
			b.Read(0, api.Fetch)
		}
		if ahead := answered > over; b.Status().Due != ahead {
			t.Errorf("ahead of %d: %v", answered, b.Status().Due)
		}
		b.Write(asked, 0, api.Store)
		if x := last(t, b); x.Stamp != answered || b.Status().Due {
			t.Errorf("answered at %d: %v", x.Stamp, b.Status().Due)
		}
		b.Read(0, api.Fetch)
		if later := answered < over; b.Status().Due != later {
			t.Errorf("behind %d: %v", answered, b.Status().Due)
		}
	}
}

// P19.2: whatever the access goes to, the page goes on; the lines are as they stand at its stamp.
func TestGoneOnWhereverItGoes(t *testing.T) {
	for _, a := range places() {
		for _, write := range []bool{false, true} {
			p := page(t, up(24, api.LineNmi), up(36, api.LineReset))
			b := bus.New(image(2), p, 10)
			b.Read(0, api.Fetch)
			b.Read(0, api.Fetch)
			if write {
				b.Write(a, 0, api.Store)
			} else {
				b.Read(a, api.Load)
			}
			if p.Now() != 24 || b.Choose(true) != api.ByNmi {
				t.Errorf("%#x: at %d, %d", a, p.Now(), b.Choose(true))
			}
		}
	}
}

// P19.2: a write to the image changes nothing, but is told.
func TestWriteImage(t *testing.T) {
	rom := image(2)
	b := bus.New(rom, page(t), 1000)
	s := b.Status()
	for _, a := range []uint32{0, 1, 0x1FFF, 0x2000, 0x3FFF, 0x4000, 0xFFFFF, around + 7} {
		was := b.Peek(a)
		b.Write(a, was+1, api.Store)
		if x := last(t, b); !x.Write || x.Data != was+1 || x.Addr != a%around {
			t.Errorf("%#x: told %v", a, x)
		}
		if got := b.Read(a, api.Load); got != was || b.Peek(a) != was {
			t.Errorf("%#x: %#x, not %#x", a, got, was)
		}
	}
	if b.Status() != s || len(b.Ram()) != 0 {
		t.Errorf("%v", b.Status())
	}
}

// P19.2, P19.3: the last access of the budget is as all others; those behind it do nothing, but are known of.
func TestBudget(t *testing.T) {
	for _, write := range []bool{false, true} {
		b, m := made(t, 3, up(36, api.LineNmi)), modelOf(image(2), page(t, up(36, api.LineNmi)), 3)
		for i := range 3 {
			if b.Left() != int64(3-i) || b.Over() {
				t.Errorf("ahead of access %d: left %d, %v", i, b.Left(), b.Over())
			}
			b.Write(0x1F0005, byte(i+1), api.Store)
			m.access(0x1F0005, byte(i+1), api.Store, true)
			if u := unlike(t, b, m); u != "" {
				t.Errorf("access %d: %s", i, u)
			}
		}
		if b.Left() != 0 || b.Over() || b.Now() != 36 || b.Peek(0x1F0005) != 3 {
			t.Errorf("behind the last one: left %d, %v, at %d", b.Left(), b.Over(), b.Now())
		}
		for range 3 {
			for _, a := range places() {
				if write {
					b.Write(a, 9, api.Store)
				} else if got := b.Read(a, api.Load); got != 255 {
					t.Errorf("%#x: %#x", a, got)
				}
				m.over = true
				if u := unlike(t, b, m); u != "" {
					t.Fatalf("%#x, write %v: %s", a, write, u)
				}
			}
		}
		if b.Now() != 36 || b.Cycles() != 3 || b.Choose(true) != api.Nothing || b.Status().Vdc != 0 || b.Peek(0x1F0005) != 3 {
			t.Errorf("write %v: at %d, %v", write, b.Now(), b.Status())
		}
	}
}

// P19.3: when none is left, all that is no access goes on as ever.
func TestBehindBudget(t *testing.T) {
	b := made(t, 1)
	b.Read(0, api.Fetch)
	if f := b.Fill([]api.Piece{{At: 1, Bytes: []byte{6}}}); f != (api.Fault{}) || b.Peek(0x1F0001) != 6 || b.Peek(1) != image(2)[1] {
		t.Errorf("%v", f)
	}
	b.Ask(true)
	if b.Turn(); !b.Fast() || b.Over() || b.Left() != 0 {
		t.Error("no speed is heard")
	}
}

// P19.3: a byte is looked at; nothing happens.
func TestPeek(t *testing.T) {
	b, m := made(t, 100, up(0, api.LineIrq1)), modelOf(image(2), page(t, up(0, api.LineIrq1)), 100)
	l := []api.Piece{{At: 0, Bytes: []byte{8, 9}}, {At: 8190, Bytes: []byte{10, 11}}}
	b.Fill(l)
	for _, p := range l {
		copy(m.ram[p.At:], p.Bytes)
	}
	for range 2 {
		for _, a := range places() {
			for _, over := range []uint32{0, around, 0xFFE00000} {
				if got, want := b.Peek(a+over), m.peek(a); got != want {
					t.Errorf("%#x: %#x, not %#x", a+over, got, want)
				}
			}
		}
		if u := unlike(t, b, m); u != "" {
			t.Error(u)
		}
	}
	for a, want := range map[uint32]byte{0: 0, 1: 1, 0x2000: 167, 0x3FFF: m.rom[0x3FFF], 0x4000: 255, 0x1F0001: 9, 0x1F3FFF: 11, 0x1F7FFE: 10, vdc: 255, psg: 255, asked: 255, open: 255} {
		if got := b.Peek(a); got != want {
			t.Errorf("%#x: %#x, not %#x", a, got, want)
		}
	}
	none := made(t, 0)
	if none.Peek(1) != 1 || none.Over() {
		t.Error("none is left: nothing is to be seen, or an access was asked for")
	}
}

// P19.3: a speed is heard at the boundary behind it, not ahead; the last one that was asked counts.
func TestSpeed(t *testing.T) {
	b := made(t, 100)
	long := func() int64 {
		from := b.Now()
		b.Read(0, api.Fetch)
		return b.Now() - from
	}
	if b.Turn(); b.Fast() || long() != 12 {
		t.Error("nothing was asked")
	}
	if b.Ask(true); b.Fast() || long() != 12 || long() != 12 {
		t.Error("it is heard ahead of the boundary")
	}
	if b.Turn(); !b.Fast() || long() != 3 || long() != 3 {
		t.Error("fast isn't heard")
	}
	if b.Turn(); !b.Fast() || long() != 3 {
		t.Error("fast is gone at the next boundary")
	}
	b.Ask(false)
	b.Ask(true)
	if b.Turn(); !b.Fast() {
		t.Error("the last one doesn't count: slow")
	}
	b.Ask(true)
	b.Ask(false)
	if !b.Fast() || long() != 3 {
		t.Error("slow is heard ahead of the boundary")
	}
	if b.Turn(); b.Fast() || long() != 12 {
		t.Error("slow isn't heard")
	}
}

// P19.3: what the page chooses, masked and not, by lines and the timer, as they stand at the last access.
func TestChoose(t *testing.T) {
	for _, c := range []struct {
		edges        []api.Edge
		disabled     byte
		open, masked uint8
	}{
		{nil, 0, api.Nothing, api.Nothing},
		{[]api.Edge{up(5, api.LineReset), up(5, api.LineNmi), up(5, api.LineIrq1)}, 0, api.ByReset, api.ByReset},
		{[]api.Edge{up(5, api.LineNmi), up(5, api.LineIrq1)}, 7, api.ByNmi, api.ByNmi},
		{[]api.Edge{up(5, api.LineIrq1), up(5, api.LineIrq2)}, 0, api.ByIrq1, api.Nothing},
		{[]api.Edge{up(5, api.LineIrq1), up(5, api.LineIrq2)}, 2, api.ByIrq2, api.Nothing},
		{[]api.Edge{up(5, api.LineIrq2)}, 0, api.ByIrq2, api.Nothing},
		{[]api.Edge{up(5, api.LineIrq2)}, 1, api.Nothing, api.Nothing},
		{[]api.Edge{up(13, api.LineReset)}, 0, api.Nothing, api.Nothing},
	} {
		b := made(t, 100, c.edges...)
		b.Write(disable, c.disabled, api.Store)
		if b.Choose(false) != api.Nothing || b.Choose(true) != api.Nothing {
			t.Errorf("%v: chosen at 0", c.edges)
		}
		b.Read(0, api.Fetch)
		for range 2 {
			if b.Choose(false) != c.open || b.Choose(true) != c.masked {
				t.Errorf("%v, disabled %d: %d, %d", c.edges, c.disabled, b.Choose(false), b.Choose(true))
			}
		}
	}
}

// P19.3: what is entered is told to the page; nothing else happens, but slow is asked for of a reset.
func TestEntered(t *testing.T) {
	for kind := range 256 {
		b, m := quick(t, 10000, up(5, api.LineNmi), up(6, api.LineIrq1)), modelOf(image(2), page(t, up(5, api.LineNmi), up(6, api.LineIrq1)), 10000)
		m.fast = true
		for _, x := range []struct {
			a uint32
			v byte
		}{{disable, 1}, {running, 1}, {reload, 3}} {
			b.Write(x.a, x.v, api.Store)
			m.access(x.a, x.v, api.Store, true)
		}
		for b.Now() < 4000 {
			b.Read(0, api.Fetch)
			m.access(0, 0, api.Fetch, false)
		}
		if s := b.Status(); !s.Due || !s.On || s.Disable != 1 || !s.Nmi {
			t.Fatalf("%v", s)
		}
		b.Entered(uint8(kind))
		m.entered(uint8(kind))
		if u := unlike(t, b, m); u != "" {
			t.Errorf("%d: %s", kind, u)
		}
		reset := kind == api.ByReset
		if s := b.Status(); s.Due == reset || s.On == reset || (s.Disable == 0) != reset || s.Nmi == (kind == api.ByNmi) {
			t.Errorf("%d: %v", kind, s)
		}
		if b.Turn(); b.Fast() == reset {
			t.Errorf("%d: fast %v behind the boundary", kind, b.Fast())
		}
	}
}

// P19.3: a reset and what is asked beside it: the last one counts.
func TestEnteredAsked(t *testing.T) {
	b := quick(t, 10)
	b.Ask(true)
	b.Entered(api.ByReset)
	if b.Turn(); b.Fast() {
		t.Error("fast was asked ahead of the reset")
	}
	b.Entered(api.ByReset)
	b.Ask(true)
	if b.Turn(); !b.Fast() {
		t.Error("fast was asked behind the reset")
	}
	b.Ask(false)
	b.Entered(api.ByNmi)
	if b.Turn(); b.Fast() {
		t.Error("slow was asked ahead of an nmi")
	}
}

// P19.4, P3: the row of accesses is the caller's, and isn't written to later.
func TestTraceApart(t *testing.T) {
	b := made(t, 100)
	if len(b.Trace()) != 0 {
		t.Errorf("at first: %v", b.Trace())
	}
	for range 5 {
		b.Read(1, api.Fetch)
	}
	got := b.Trace()
	held := slices.Clone(got)
	for i := range got {
		got[i] = api.Access{Data: 99, Stamp: 7}
	}
	if again := b.Trace(); !slices.Equal(again, held) {
		t.Errorf("the caller changes it: %v", again)
	}
	one := b.Trace()
	wide := one[:cap(one)]
	for i := range wide {
		wide[i].Kind = 200
	}
	for range 5 {
		b.Write(0x1F0000, 3, api.Store)
	}
	if again := b.Trace(); len(again) != 10 || !slices.Equal(again[:5], held) || again[5].Kind != api.Store {
		t.Errorf("%v", again)
	}
	for _, x := range one {
		if x.Kind != 200 {
			t.Errorf("written to later: %v", one)
		}
	}
}

// P19.4: what of memory isn't 0, rising, as few pieces as may be; another one that is filled with it is alike.
func TestRamFill(t *testing.T) {
	b := made(t, 1000)
	if len(b.Ram()) != 0 {
		t.Errorf("at first: %v", b.Ram())
	}
	for i, off := range []uint32{0, 1, 2, 63, 64, 65, 100, 5000, 5002, 8190, 8191} {
		b.Write(0x1F0000+off, byte(i+1), api.Store)
	}
	b.Write(0x1F2001, 0, api.Store)
	l := b.Ram()
	want := []api.Piece{{At: 0, Bytes: []byte{1}}, {At: 2, Bytes: []byte{3}}, {At: 63, Bytes: []byte{4, 5, 6}}, {At: 100, Bytes: []byte{7}}, {At: 5000, Bytes: []byte{8}}, {At: 5002, Bytes: []byte{9}}, {At: 8190, Bytes: []byte{10, 11}}}
	same := func(a, b api.Piece) bool { return a.At == b.At && slices.Equal(a.Bytes, b.Bytes) }
	if !slices.EqualFunc(l, want, same) {
		t.Errorf("%v, not %v", l, want)
	}
	other := made(t, 0)
	if f := other.Fill(l); f != (api.Fault{}) || !slices.EqualFunc(other.Ram(), want, same) {
		t.Errorf("%v, %v", f, other.Ram())
	}
	for i := range l {
		for n := range l[i].Bytes {
			l[i].Bytes[n] = 200
		}
	}
	if !slices.EqualFunc(b.Ram(), want, same) || !slices.EqualFunc(other.Ram(), want, same) {
		t.Error("the caller changes it")
	}
}

// both is a bus and its model, some way on.
func both(t *testing.T) (*bus.Bus, *model) {
	t.Helper()
	edges := []api.Edge{up(10, api.LineIrq1), up(200, api.LineNmi), down(300, api.LineIrq1)}
	b, m := quick(t, 100, edges...), modelOf(image(2), page(t, edges...), 100)
	m.fast = true
	onward(b, m, 20, 3)
	return b, m
}

// onward does so many accesses, by a seed, on a bus and its model.
func onward(b *bus.Bus, m *model, n int, seed uint32) {
	all := places()
	for range n {
		seed = seed*1664525 + 1013904223
		a, v, kind := all[seed>>8%uint32(len(all))], byte(seed>>20), uint8(seed>>28)
		if seed>>17%2 == 0 {
			b.Write(a, v, kind)
			m.access(a, v, kind, true)
		} else {
			b.Read(a, kind)
			m.access(a, 0, kind, false)
		}
	}
}

// cloned is a model that is apart.
func cloned(m *model) *model {
	other := *m
	other.page = m.page.Clone()
	other.trace, other.next = slices.Clone(m.trace), slices.Clone(m.next)
	return &other
}

// P19.4, P5: a clone is alike, another one, and apart, whichever of both goes on.
func TestClone(t *testing.T) {
	for seed := range uint32(20) {
		b, m := both(t)
		b.Ask(false)
		m.next = append(m.next, false)
		c, d := b.Clone(), cloned(m)
		if c == nil || c == b {
			t.Fatal("a clone isn't another one")
		}
		check := func(what string) {
			t.Helper()
			if u := unlike(t, b, m); u != "" {
				t.Errorf("%s: the first one: %s", what, u)
			}
			if u := unlike(t, c, d); u != "" {
				t.Errorf("%s: the clone: %s", what, u)
			}
			if b.Peek(1) != 1 || c.Peek(1) != 1 {
				t.Errorf("%s: the image", what)
			}
		}
		check("alike")
		c.Turn()
		d.turn()
		check("the clone has a boundary")
		onward(c, d, 30, seed)
		check("the clone goes on")
		c.Fill([]api.Piece{{At: 1, Bytes: []byte{71, 72}}})
		copy(d.ram[1:], []byte{71, 72})
		c.Entered(api.ByReset)
		d.entered(api.ByReset)
		check("the clone is filled, and reset")
		onward(b, m, 40, seed+99)
		check("the first one goes on")
		b.Turn()
		m.turn()
		b.Fill([]api.Piece{{At: 5, Bytes: []byte{81}}})
		m.ram[5] = 81
		b.Entered(api.ByNmi)
		m.entered(api.ByNmi)
		check("the first one has a boundary, and is filled")
		onward(b, m, 100, seed+7)
		check("the first one is over")
		onward(c, d, 100, seed+7)
		check("both are over")
		e, f := b.Clone(), cloned(m)
		if u := unlike(t, e, f); u != "" || !e.Over() {
			t.Errorf("a clone of one that is over: %s", u)
		}
	}
}

// P19.4: what a clone is asked is as what the first one would have answered.
func TestCloneAsTheFirst(t *testing.T) {
	b, _ := both(t)
	c := b.Clone()
	for range 4 {
		for _, a := range places() {
			if got, want := c.Read(a, api.Load), b.Read(a, api.Load); got != want {
				t.Errorf("%#x: %#x, not %#x", a, got, want)
			}
		}
	}
	if !slices.Equal(b.Trace(), c.Trace()) || b.Status() != c.Status() || b.Now() != c.Now() || b.Cycles() != c.Cycles() {
		t.Error("they aren't alike")
	}
}

// P19.4: both append to rows of their own.
func TestCloneTraces(t *testing.T) {
	b := made(t, 100)
	for range 5 {
		b.Read(0, api.Fetch)
	}
	c := b.Clone()
	b.Read(1, api.Load)
	c.Read(2, api.Pull)
	b.Read(3, api.Load)
	if l, k := b.Trace(), c.Trace(); len(l) != 7 || len(k) != 6 || l[5].Addr != 1 || k[5].Addr != 2 || l[6].Addr != 3 {
		t.Errorf("%v, %v", l, k)
	}
}

// nothing tells whether of a bus there is nothing, and nothing happens.
func nothing(b *bus.Bus) bool {
	return b.Left() == 0 && !b.Over() && b.Now() == 0 && !b.Fast() && len(b.Trace()) == 0 && len(b.Ram()) == 0 && b.Status() == (api.Status{}) && b.Choose(false) == 0 && b.Choose(true) == 0
}

// P19.4, P1: of nil, of a nil page, and of such as no call made, nothing happens, whatever is asked.
func TestNil(t *testing.T) {
	for i, b := range []*bus.Bus{nil, bus.New(image(1), nil, 100), bus.New(nil, nil, 0), bus.New(nil, nil, -1), bus.New(nil, nil, math.MaxInt64), new(bus.Bus), bus.New(image(1), nil, 100).Clone(), new(bus.Bus).Clone()} {
		for range 2 {
			if !nothing(b) {
				t.Fatalf("%d: something is there", i)
			}
			for _, a := range append(places(), math.MaxUint32, around) {
				b.Write(a, 9, api.Store)
				if b.Read(a, api.Load) != 255 || b.Peek(a) != 255 || !nothing(b) {
					t.Errorf("%d, %#x: something happens", i, a)
				}
			}
			for _, l := range [][]api.Piece{nil, {{At: 5, Bytes: []byte{1}}}, {{At: -1, Bytes: []byte{1}}}} {
				if f := b.Fill(l); f != (api.Fault{}) || !nothing(b) {
					t.Errorf("%d: filled: %v", i, f)
				}
			}
			b.Ask(true)
			b.Turn()
			for kind := range 256 {
				b.Entered(uint8(kind))
			}
			b.Ask(true)
			if b.Entered(api.ByReset); !nothing(b) {
				t.Errorf("%d: something happens", i)
			}
		}
		if (b.Clone() == nil) != (b == nil) || !nothing(b.Clone()) {
			t.Errorf("%d: its clone", i)
		}
	}
}

// P1: a page that no call made goes as a new one of no bytes and no edges.
func TestUnmadePage(t *testing.T) {
	b := bus.New(image(1), new(hard.Page), 100)
	m := modelOf(image(1), new(hard.Page), 100)
	if onward(b, m, 150, 11); unlike(t, b, m) != "" {
		t.Error(unlike(t, b, m))
	}
}

// P19.5: each stamp is the one ahead and 3, 6, 12 or 24, as its speed and its place tell; there are as many as were asked for, but at most the budget.
func TestRising(t *testing.T) {
	for _, budget := range []int64{0, 1, 10, 500, 1000, 1001} {
		b := made(t, budget)
		all := places()
		x := uint32(1)
		var fast []bool
		for i := range 1000 {
			x = x*1664525 + 1013904223
			if x>>9%7 == 0 {
				b.Ask(x>>20%2 == 0)
				b.Turn()
			}
			fast = append(fast, b.Fast())
			b.Read(all[x>>12%uint32(len(all))], uint8(i%8))
		}
		l := b.Trace()
		if int64(len(l)) != min(budget, 1000) || b.Left() != budget-int64(len(l)) || b.Over() != (budget < 1000) {
			t.Errorf("budget %d: %d accesses, left %d", budget, len(l), b.Left())
		}
		ends := append(slices.Clone(l), api.Access{Stamp: b.Now()})
		for i, y := range l {
			long := int64(12)
			if fast[i] {
				long = 3
			}
			if phys.Extra(y.Addr) {
				long *= 2
			}
			if got := ends[i+1].Stamp - y.Stamp; got != long {
				t.Fatalf("access %d: %d more, not %d", i, got, long)
			}
		}
		if b.Now() >= 24*(budget+1) {
			t.Errorf("budget %d: at %d", budget, b.Now())
		}
	}
}

// P19.2, P19.3: one behind the other, whatever is asked.
func TestAsTold(t *testing.T) {
	edges := []api.Edge{up(0, api.LineIrq2)}
	for i := range int64(300) {
		edges = append(edges, api.Edge{Stamp: 100*i + i%7, Line: uint8(i*5%13) % 4, Up: i%3 > 0})
	}
	b, m := made(t, 15000, edges...), modelOf(image(2), page(t, edges...), 15000)
	all := places()
	x := uint32(9)
	for i := range 30000 {
		x = x*1664525 + 1013904223
		a, v := all[x>>8%uint32(len(all))]+x>>31*around, byte(x>>18)
		switch kind := uint8(x >> 29); x >> 25 % 16 {
		case 0:
			b.Ask(v%2 == 0)
			m.next = append(m.next, v%2 == 0)
		case 1, 2:
			b.Turn()
			m.turn()
		case 3:
			b.Entered(v % 8)
			m.entered(v % 8)
		case 4, 5, 6, 7, 8:
			b.Write(a, v, kind)
			m.access(a, v, kind, true)
		default:
			if got, want := b.Read(a, kind), m.access(a, 0, kind, false); got != want {
				t.Fatalf("step %d, %#x: %#x, not %#x", i, a, got, want)
			}
		}
		if b.Peek(a) != m.peek(a) || b.Left() != m.left || b.Now() != m.now || b.Fast() != m.fast || b.Status() != m.page.Status() {
			t.Fatalf("step %d: at %d, not %d", i, b.Now(), m.now)
		}
		if i%500 == 0 {
			if u := unlike(t, b, m); u != "" {
				t.Fatalf("step %d: %s", i, u)
			}
		}
	}
	if u := unlike(t, b, m); u != "" || !b.Over() {
		t.Errorf("at last: %s", u)
	}
}

// P5: two of them have nothing to do with one another.
func TestApart(t *testing.T) {
	b, other := made(t, 100), made(t, 100)
	b.Write(0x1F0003, 9, api.Store)
	b.Write(disable, 7, api.Store)
	b.Ask(true)
	b.Turn()
	if u := unlike(t, other, modelOf(image(2), page(t), 100)); u != "" {
		t.Error(u)
	}
}

// The example of the chapter.
func TestExample(t *testing.T) {
	rom, _ := cart.Make(1, []api.Piece{{Bytes: []byte{0xEA}}})
	b := bus.New(rom, page(t), 2)
	if got := b.Read(0, api.Fetch); got != 0xEA {
		t.Errorf("first: %#x", got)
	}
	if got := b.Read(0x1FE000, api.Load); got != 0x11 || b.Now() != 36 {
		t.Errorf("second: %#x, then %d", got, b.Now())
	}
	if got := b.Read(0, api.Fetch); got != 255 {
		t.Errorf("third: %#x", got)
	}
	want := []api.Access{{Stamp: 0, Addr: 0, Kind: api.Fetch, Data: 0xEA}, {Stamp: 12, Addr: 0x1FE000, Kind: api.Load, Data: 0x11}}
	if !slices.Equal(b.Trace(), want) || b.Left() != 0 || !b.Over() || b.Now() != 36 {
		t.Errorf("%v", b.Trace())
	}
}
