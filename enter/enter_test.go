package enter_test

import (
	"fmt"
	"slices"
	"testing"

	"gannet/api"
	"gannet/bus"
	"gannet/enter"
	"gannet/hard"
)

// kinds is all kinds of entries.
var kinds = []uint8{api.ByReset, api.ByNmi, api.ByTimer, api.ByIrq1, api.ByIrq2}

// others is kinds of which there is no entry.
var others = []uint8{api.Nothing, 6, 7, 8, 100, 254, 255}

// words is where each kind's word is, by its number.
var words = [6]uint16{api.ByReset: 0xFFFE, api.ByNmi: 0xFFFC, api.ByTimer: 0xFFFA, api.ByIrq1: 0xFFF8, api.ByIrq2: 0xFFF6}

// goes is where each kind goes in the images here, by its number.
var goes = [6]uint16{api.ByReset: 0xE0F1, api.ByNmi: 0xE1F2, api.ByTimer: 0x00F3, api.ByIrq1: 0xFFF4, api.ByIrq2: 0x8005}

// image is three pages, of which no two are alike; the first one has the words of all kinds.
func image() []byte {
	rom := make([]byte, 3*api.PageSize)
	for i := range rom {
		rom[i] = byte(i%253 + 64*(i/api.PageSize))
	}
	for kind, at := range words {
		if at > 0 {
			rom[at%api.PageSize], rom[at%api.PageSize+1] = byte(goes[kind]%256), byte(goes[kind]/256)
		}
	}
	return rom
}

// up and down are edges.
func up(stamp int64, line uint8) api.Edge   { return api.Edge{Stamp: stamp, Line: line, Up: true} }
func down(stamp int64, line uint8) api.Edge { return api.Edge{Stamp: stamp, Line: line} }

// made is a bus of the image.
func made(t *testing.T, budget int64, edges ...api.Edge) *bus.Bus {
	t.Helper()
	p, f := hard.New(api.Feeds{Vdc: []byte{0x11, 0x12}, Vce: []byte{0x21}, Port: []byte{0x5A}}, edges)
	if f != (api.Fault{}) {
		t.Fatalf("a page: %v", f)
	}
	return bus.New(image(), p, budget)
}

// registers is such that no two are alike: page 0 is the devices', 1 and 4 are work memory, 2, 6 and 7 the image's, 5 is beyond it, 3 is open.
func registers() api.State {
	return api.State{A: 1, X: 2, Y: 3, S: 0xFE, P: 0xFF, PC: 0xE123, Mpr: [8]byte{0xFF, 0xF8, 0x01, 0x80, 0xFB, 0x7F, 0x02, 0x00}, Last: 9, Fast: true}
}

// place is a physical address.
func place(s api.State, a uint16) uint32 { return uint32(s.Mpr[a>>13])<<13 | uint32(a&0x1FFF) }

// want is the plan that the chapter tells, by numbers alone.
func want(kind uint8, s api.State) []enter.Step {
	d := enter.Step{Kind: 2, Addr: s.PC}
	stack := func(n int, b byte) enter.Step {
		at := 0x2100 + (uint16(s.S)+256-uint16(n))%256
		if kind == 1 {
			return enter.Step{Kind: 2, Addr: at}
		}
		return enter.Step{Kind: 5, Addr: at, Write: true, Data: b}
	}
	word := words[kind]
	return []enter.Step{
		d, d,
		stack(0, byte(s.PC/256)), stack(1, byte(s.PC%256)), stack(2, s.P&0xCF),
		{Kind: 7, Addr: word}, {Kind: 7, Addr: word + 1},
		d,
	}
}

// states is registers with stacks that go round, with each flag, at both ends of all addresses.
func states() []api.State {
	var all []api.State
	for _, sp := range []byte{0, 1, 2, 3, 4, 0x80, 0xFD, 0xFE, 0xFF} {
		for _, p := range []byte{0, 0xFF, api.FlagB, api.FlagT, api.FlagB | api.FlagT, 0xCF, api.FlagI, api.FlagD, 0x55, 0xAA} {
			for _, pc := range []uint16{0, 1, 0x00FF, 0x1234, 0x1FFF, 0x2000, 0xFF00, 0xFFFE, 0xFFFF} {
				s := registers()
				s.S, s.P, s.PC = sp, p, pc
				all = append(all, s)
			}
		}
	}
	return all
}

// P27.1: eight accesses of each kind.
func TestPlan(t *testing.T) {
	for _, s := range states() {
		for _, kind := range kinds {
			if got := enter.Plan(kind, s); !slices.Equal(got, want(kind, s)) {
				t.Errorf("kind %d, %v: %v, not %v", kind, s, got, want(kind, s))
			}
		}
	}
}

// P27.1: plans that are written here.
func TestPlanByHand(t *testing.T) {
	for _, c := range []struct {
		kind uint8
		s    api.State
		want []enter.Step
	}{
		{api.ByIrq1, api.State{S: 0xFF, PC: 0x1234, P: 0xFF}, []enter.Step{
			{Kind: api.Dummy, Addr: 0x1234}, {Kind: api.Dummy, Addr: 0x1234},
			{Kind: api.Push, Addr: 0x21FF, Write: true, Data: 0x12}, {Kind: api.Push, Addr: 0x21FE, Write: true, Data: 0x34}, {Kind: api.Push, Addr: 0x21FD, Write: true, Data: 0xCF},
			{Kind: api.Vector, Addr: 0xFFF8}, {Kind: api.Vector, Addr: 0xFFF9}, {Kind: api.Dummy, Addr: 0x1234},
		}},
		{api.ByNmi, api.State{S: 1, PC: 0xFFFF, P: api.FlagB | api.FlagT | api.FlagC}, []enter.Step{
			{Kind: api.Dummy, Addr: 0xFFFF}, {Kind: api.Dummy, Addr: 0xFFFF},
			{Kind: api.Push, Addr: 0x2101, Write: true, Data: 0xFF}, {Kind: api.Push, Addr: 0x2100, Write: true, Data: 0xFF}, {Kind: api.Push, Addr: 0x21FF, Write: true, Data: api.FlagC},
			{Kind: api.Vector, Addr: 0xFFFC}, {Kind: api.Vector, Addr: 0xFFFD}, {Kind: api.Dummy, Addr: 0xFFFF},
		}},
		{api.ByReset, api.State{S: 0, PC: 0x5678, P: 0xFF}, []enter.Step{
			{Kind: api.Dummy, Addr: 0x5678}, {Kind: api.Dummy, Addr: 0x5678},
			{Kind: api.Dummy, Addr: 0x2100}, {Kind: api.Dummy, Addr: 0x21FF}, {Kind: api.Dummy, Addr: 0x21FE},
			{Kind: api.Vector, Addr: 0xFFFE}, {Kind: api.Vector, Addr: 0xFFFF}, {Kind: api.Dummy, Addr: 0x5678},
		}},
	} {
		if got := enter.Plan(c.kind, c.s); !slices.Equal(got, c.want) {
			t.Errorf("kind %d: %v, not %v", c.kind, got, c.want)
		}
	}
}

// P27.1, P2: of other kinds there is none.
func TestPlanNone(t *testing.T) {
	for kind := range 256 {
		got := enter.Plan(uint8(kind), registers())
		if has := 1 <= kind && kind <= 5; len(got) != 0 != has || len(got) != 0 && len(got) != 8 {
			t.Errorf("kind %d: %v", kind, got)
		}
	}
}

// P27.1: A, X, Y, the pages and the speed don't matter.
func TestPlanOfWhat(t *testing.T) {
	for _, kind := range kinds {
		s := registers()
		x := api.State{S: s.S, P: s.P, PC: s.PC}
		if got := enter.Plan(kind, x); !slices.Equal(got, enter.Plan(kind, s)) {
			t.Errorf("kind %d: %v", kind, got)
		}
	}
}

// P3, P5: a plan is the caller's.
func TestPlanApart(t *testing.T) {
	for _, kind := range kinds {
		l := enter.Plan(kind, registers())
		clear(l)
		if got := enter.Plan(kind, registers()); !slices.Equal(got, want(kind, registers())) {
			t.Errorf("kind %d: %v", kind, got)
		}
	}
}

// P27.2: S, P and PC of each kind; of a reset page 7 and the speed, too; all else stays.
func TestAfter(t *testing.T) {
	for _, s := range states() {
		for _, kind := range kinds {
			for _, to := range []uint16{0, 0x1234, 0xE000, 0xFFFF} {
				for _, fast := range []bool{false, true} {
					s.Fast, s.Mpr[7] = fast, 0x55
					want := s
					want.S = byte((int(s.S) + 253) % 256)
					want.P = s.P&0xC3 | 4
					want.PC = to
					if kind == api.ByReset {
						want.Mpr[7], want.Fast = 0, false
					}
					if got := enter.After(kind, s, to); got != want {
						t.Errorf("kind %d, %v: %v, not %v", kind, s, got, want)
					}
				}
			}
		}
	}
}

// P27.2: registers that are written here.
func TestAfterByHand(t *testing.T) {
	s := api.State{A: 1, X: 2, Y: 3, S: 2, P: api.FlagN | api.FlagT | api.FlagB | api.FlagD | api.FlagC, PC: 0x4000, Mpr: [8]byte{1, 2, 3, 4, 5, 6, 7, 8}, Last: 9, Fast: true}
	nmi := api.State{A: 1, X: 2, Y: 3, S: 0xFF, P: api.FlagN | api.FlagI | api.FlagC, PC: 0xE1F2, Mpr: [8]byte{1, 2, 3, 4, 5, 6, 7, 8}, Last: 9, Fast: true}
	if got := enter.After(api.ByNmi, s, 0xE1F2); got != nmi {
		t.Errorf("nmi: %v, not %v", got, nmi)
	}
	reset := nmi
	reset.Mpr[7], reset.Fast = 0, false
	if got := enter.After(api.ByReset, s, 0xE1F2); got != reset {
		t.Errorf("reset: %v, not %v", got, reset)
	}
}

// P27.2: of no such kind all stays.
func TestAfterNone(t *testing.T) {
	for _, kind := range others {
		for _, s := range []api.State{{}, registers()} {
			if got := enter.After(kind, s, 0x1234); got != s {
				t.Errorf("kind %d: %v, not %v", kind, got, s)
			}
		}
	}
}

// told is the access that is told last.
func told(t *testing.T, b *bus.Bus) api.Access {
	t.Helper()
	l := b.Trace()
	if len(l) == 0 {
		t.Fatal("nothing is told")
	}
	x := l[len(l)-1]
	x.Stamp = 0
	return x
}

// P27.3: what is read, by all pages, of work memory, of the image, of devices, and where nothing is.
func TestAccessReads(t *testing.T) {
	s := registers()
	b := made(t, 1000)
	b.Fill([]api.Piece{{At: 0x0005, Bytes: []byte{0x77}}, {At: 0x1FFF, Bytes: []byte{0x88}}})
	for i, c := range []struct {
		at   uint16
		want byte
	}{
		{0x0000, 0x11}, {0x0002, 0x12}, {0x0400, 0x21}, {0x1800, 255}, {0x2005, 0x77}, {0x3FFF, 0x88}, {0x8005, 0x77}, {0x2006, 0},
		{0x4000, image()[0x2000]}, {0x5FFF, image()[0x3FFF]}, {0x6000, 255}, {0xA000, 255}, {0xC123, image()[0x4123]}, {0xE007, image()[7]}, {0xFFFF, image()[0x1FFF]},
	} {
		kind := uint8(i % 8)
		want := api.Access{Addr: place(s, c.at), Kind: kind, Data: c.want}
		// What a step that reads has as its byte doesn't matter.
		if got := enter.Access(b, s, enter.Step{Kind: kind, Addr: c.at, Data: 0x99}); got != c.want || told(t, b) != want {
			t.Errorf("%#x: %#x, not %#x: %v, not %v", c.at, got, c.want, told(t, b), want)
		}
	}
	if n := len(b.Trace()); n != 15 {
		t.Errorf("%d accesses", n)
	}
}

// P27.3: what is written, likewise; 0 is answered.
func TestAccessWrites(t *testing.T) {
	s := registers()
	b := made(t, 1000)
	for i, at := range []uint16{0x2005, 0x3FFF, 0x8006, 0x4000, 0x6000, 0xA000, 0xFFFF, 0x0800, 0x0C00, 0x1000, 0x1402} {
		kind, v := uint8(i%8), byte(i+0x31)
		want := api.Access{Addr: place(s, at), Kind: kind, Write: true, Data: v}
		if got := enter.Access(b, s, enter.Step{Kind: kind, Addr: at, Write: true, Data: v}); got != 0 || told(t, b) != want {
			t.Errorf("%#x: %#x: %v, not %v", at, got, told(t, b), want)
		}
	}
	if b.Peek(0x1F0005) != 0x31 || b.Peek(0x1F1FFF) != 0x32 || b.Peek(0x1F0006) != 0x33 || b.Peek(0x2000) != image()[0x2000] || b.Peek(0x1FFF) != image()[0x1FFF] {
		t.Errorf("memory: %v", b.Ram())
	}
	if x := b.Status(); x.Reload != 0x39 || x.Disable != 0x3B&7 || x.Latch != 0x3B {
		t.Errorf("devices: %v", x)
	}
}

// P27.3: each page is that of the registers.
func TestAccessPages(t *testing.T) {
	b := made(t, 10000)
	for n := range uint16(8) {
		for bank := range 256 {
			var s api.State
			s.Mpr[n] = byte(bank)
			enter.Access(b, s, enter.Step{Addr: n<<13 | 0x1801})
			if got := told(t, b).Addr; got != uint32(bank)<<13|0x1801 {
				t.Errorf("page %d, bank %d: %#x", n, bank, got)
			}
		}
	}
}

// P27.3: of a bus whose accesses are over, and of none, 255 is read, and nothing happens.
func TestAccessNone(t *testing.T) {
	for i, b := range []*bus.Bus{made(t, 0), nil} {
		if got := enter.Access(b, registers(), enter.Step{Addr: 0xE000}); got != 255 {
			t.Errorf("%d: %#x", i, got)
		}
		if got := enter.Access(b, registers(), enter.Step{Addr: 0x2000, Write: true, Data: 5}); got != 0 || len(b.Trace()) != 0 {
			t.Errorf("%d: %#x", i, got)
		}
	}
}

// seen is a step as it is told, by the registers' pages, with the byte that was read there ahead.
func seen(b *bus.Bus, s api.State, x enter.Step) api.Access {
	a := place(s, x.Addr)
	if x.Write {
		return api.Access{Addr: a, Kind: x.Kind, Write: true, Data: x.Data}
	}
	return api.Access{Addr: a, Kind: x.Kind, Data: b.Peek(a)}
}

// unlike is the first access that isn't as it is wanted, from the first n on, at stamps that are so far apart.
func unlike(l []api.Access, n int, want []api.Access, apart int64) string {
	if len(l) != n+len(want) {
		return fmt.Sprintf("%d accesses, not %d", len(l)-n, len(want))
	}
	begin := int64(0)
	if n < len(l) {
		begin = l[n].Stamp
	}
	for i, x := range l[n:] {
		want[i].Stamp = begin + int64(i)*apart
		if x != want[i] {
			return fmt.Sprintf("access %d: %v, not %v", i, x, want[i])
		}
	}
	return ""
}

// P27.3, P27.5: all accesses of each kind are told, what is pushed is there, and where it goes is the word that was read.
func TestDo(t *testing.T) {
	for _, s := range states() {
		for _, kind := range kinds {
			b := made(t, 100)
			s.Mpr[0] = 0x01 // A device may be another one when it is read again.
			var all []api.Access
			for _, x := range want(kind, s) {
				all = append(all, seen(b, s, x))
			}
			got := enter.Do(b, s, kind)
			if want := enter.After(kind, s, goes[kind]); got != want {
				t.Errorf("kind %d, %v: %v, not %v", kind, s, got, want)
			}
			if u := unlike(b.Trace(), 0, all, 12); u != "" {
				t.Errorf("kind %d, %v: %s", kind, s, u)
			}
			if b.Left() != 92 || b.Over() {
				t.Errorf("kind %d: left %d", kind, b.Left())
			}
			pushed := [3]byte{b.Peek(0x1F0100 + uint32(s.S)), b.Peek(0x1F0100 + uint32(s.S-1)), b.Peek(0x1F0100 + uint32(s.S-2))}
			want := [3]byte{byte(s.PC >> 8), byte(s.PC), s.P &^ 0x30}
			if kind == api.ByReset {
				want = [3]byte{}
			}
			if pushed != want {
				t.Errorf("kind %d, %v: pushed %x, not %x", kind, s, pushed, want)
			}
		}
	}
}

// P27.3: an entry that is written here.
func TestDoByHand(t *testing.T) {
	b := made(t, 100)
	s := api.State{A: 7, S: 1, P: api.FlagT | api.FlagD | api.FlagZ, PC: 0x3456, Mpr: [8]byte{1: 0xF9}, Last: 3}
	want := api.State{A: 7, S: 0xFE, P: api.FlagI | api.FlagZ, PC: 0x00F3, Mpr: [8]byte{1: 0xF9}, Last: 3}
	if got := enter.Do(b, s, api.ByTimer); got != want {
		t.Errorf("%v, not %v", got, want)
	}
	l := []api.Access{
		{Stamp: 0, Addr: 0x1F3456, Kind: api.Dummy}, {Stamp: 12, Addr: 0x1F3456, Kind: api.Dummy},
		{Stamp: 24, Addr: 0x1F2101, Kind: api.Push, Write: true, Data: 0x34}, {Stamp: 36, Addr: 0x1F2100, Kind: api.Push, Write: true, Data: 0x56}, {Stamp: 48, Addr: 0x1F21FF, Kind: api.Push, Write: true, Data: 0x0A},
		{Stamp: 60, Addr: 0x1FFA, Kind: api.Vector, Data: 0xF3}, {Stamp: 72, Addr: 0x1FFB, Kind: api.Vector, Data: 0x00}, {Stamp: 84, Addr: 0x1F3456, Kind: api.Dummy},
	}
	if !slices.Equal(b.Trace(), l) {
		t.Errorf("%v, not %v", b.Trace(), l)
	}
}

// P27.3: a reset goes through page 7 in bank 0 from its first access on; no other kind does.
func TestDoPages(t *testing.T) {
	for _, kind := range kinds {
		b, s := made(t, 100), registers()
		s.Mpr[7], s.PC = 2, 0xFFF0
		bank := uint32(2)
		if kind == api.ByReset {
			bank = 0
		}
		got := enter.Do(b, s, kind)
		l := b.Trace()
		for i, off := range map[int]uint32{0: 0x1FF0, 1: 0x1FF0, 5: uint32(words[kind] & 0x1FFF), 6: uint32(words[kind]&0x1FFF) + 1, 7: 0x1FF0} {
			if want := bank<<13 | off; l[i].Addr != want || l[i].Data != image()[want] {
				t.Errorf("kind %d, access %d: %v", kind, i, l[i])
			}
		}
		if got.PC != uint16(l[5].Data)|uint16(l[6].Data)<<8 || got.Mpr[7] != byte(bank) {
			t.Errorf("kind %d: %v", kind, got)
		}
	}
}

// P27.3: where the stack isn't work memory what is pushed is told, and nothing is there.
func TestDoElsewhere(t *testing.T) {
	b, s := made(t, 100), registers()
	s.Mpr[1] = 2
	enter.Do(b, s, api.ByIrq2)
	if l := b.Trace(); len(l) != 8 || l[2].Addr != 0x41FE || !l[2].Write || l[2].Data != 0xE1 || len(b.Ram()) != 0 || b.Peek(0x41FE) != image()[0x41FE] {
		t.Errorf("%v", l)
	}
}

// P27.3: the devices are told ahead of the first access: what nmi rose till then is taken, and not what rises behind.
func TestDoNmi(t *testing.T) {
	for _, again := range []bool{false, true} {
		edges := []api.Edge{up(5, api.LineNmi)}
		if again {
			edges = append(edges, down(30, api.LineNmi), up(40, api.LineNmi))
		}
		for _, kind := range kinds {
			b := made(t, 100, edges...)
			b.Read(0, api.Fetch)
			b.Read(0, api.Fetch)
			if b.Choose(true) != api.ByNmi {
				t.Fatal("it didn't rise")
			}
			enter.Do(b, registers(), kind)
			if want := kind != api.ByNmi || again; b.Status().Nmi != want {
				t.Errorf("kind %d, again %v: rose %v", kind, again, b.Status().Nmi)
			}
		}
	}
}

// P27.3: a reset stops the timer ahead of its first access, and disables nothing; no other kind does.
func TestDoReset(t *testing.T) {
	for _, kind := range kinds {
		for _, waits := range []int64{4, 100, 254, 260} {
			b := made(t, 1000)
			b.Write(0x1FEC00, 0, api.Store)
			b.Write(0x1FEC01, 1, api.Store)
			b.Write(0x1FF402, 6, api.Store)
			for range waits - 3 {
				b.Read(0, api.Fetch)
			}
			ahead := b.Status()
			enter.Do(b, registers(), kind)
			got := b.Status()
			if kind == api.ByReset {
				if got.On || got.Due || got.Disable != 0 || got.Left != ahead.Left {
					t.Errorf("reset behind %d: %v", waits, got)
				}
			} else if !got.On || got.Disable != 6 || got.Due != (waits >= 251) {
				t.Errorf("kind %d behind %d: %v", kind, waits, got)
			}
		}
	}
}

// P27.3: behind its accesses, not ahead of them, comes the bus' Turn; a reset asks for slow ahead of it.
func TestDoTurn(t *testing.T) {
	for _, kind := range kinds {
		for _, fast := range []bool{false, true} {
			for _, asked := range []bool{false, true} {
				b, s := made(t, 100), registers()
				b.Ask(fast)
				b.Turn()
				b.Ask(asked)
				s.Fast = !asked
				apart := int64(12)
				if fast {
					apart = 3
				}
				got := enter.Do(b, s, kind)
				for i, x := range b.Trace() {
					if x.Stamp != int64(i)*apart {
						t.Errorf("kind %d, fast %v, asked %v: access %d at %d", kind, fast, asked, i, x.Stamp)
					}
				}
				if b.Now() != 8*apart || b.Fast() != (asked && kind != api.ByReset) || got.Fast != (s.Fast && kind != api.ByReset) {
					t.Errorf("kind %d, fast %v, asked %v: at %d, %v; %v", kind, fast, asked, b.Now(), b.Fast(), got)
				}
			}
		}
	}
}

// P27.3: a budget that ends within it: what isn't read is 255.
func TestDoBudget(t *testing.T) {
	for _, kind := range kinds {
		for budget := range int64(10) {
			b := made(t, budget)
			to := goes[kind]
			if budget < 6 {
				to |= 0x00FF
			}
			if budget < 7 {
				to |= 0xFF00
			}
			if got, want := enter.Do(b, registers(), kind), enter.After(kind, registers(), to); got != want {
				t.Errorf("kind %d, budget %d: %v, not %v", kind, budget, got, want)
			}
			if n := int64(len(b.Trace())); n != min(budget, 8) || b.Over() != (budget < 8) {
				t.Errorf("kind %d, budget %d: %d accesses, over %v", kind, budget, n, b.Over())
			}
		}
	}
}

// P27.3: of no such kind nothing happens at all.
func TestDoNone(t *testing.T) {
	for _, kind := range others {
		for _, budget := range []int64{0, 100} {
			b, s := made(t, budget, up(0, api.LineNmi)), registers()
			b.Read(0, api.Fetch)
			b.Read(0, api.Fetch)
			b.Ask(true)
			n, status, over := len(b.Trace()), b.Status(), b.Over()
			if got := enter.Do(b, s, kind); got != s || len(b.Trace()) != n || b.Status() != status || b.Fast() || b.Over() != over {
				t.Errorf("kind %d: %v", kind, got)
			}
			if b.Turn(); !b.Fast() {
				t.Errorf("kind %d: what was asked is gone", kind)
			}
		}
	}
	b := made(t, 0)
	if enter.Do(b, registers(), api.Nothing); b.Over() {
		t.Error("an access was asked for")
	}
}

// P1: no bus, and such as no call made.
func TestNil(t *testing.T) {
	for kind := range 256 {
		for i, b := range []*bus.Bus{nil, new(bus.Bus), bus.New(nil, nil, 10), bus.New(nil, new(hard.Page), 10)} {
			for _, write := range []bool{false, true} {
				enter.Access(b, registers(), enter.Step{Kind: uint8(kind), Addr: 0x2000, Write: write})
			}
			got := enter.Do(b, registers(), uint8(kind))
			if kind < 1 || kind > 5 {
				if got != registers() {
					t.Errorf("kind %d, %d: %v", kind, i, got)
				}
			}
		}
	}
}

// P27.4: all 0, but that interrupts are masked.
func TestBegin(t *testing.T) {
	if got, want := enter.Begin(), (api.State{P: api.FlagI}); got != want || got.P != 4 {
		t.Errorf("%v, not %v", got, want)
	}
}

// P27.4, P27.3: what begins is entered through banks of 0 alone.
func TestFirst(t *testing.T) {
	b := made(t, 8)
	want := api.State{S: 0xFD, P: api.FlagI, PC: 0xE0F1}
	if got := enter.Do(b, enter.Begin(), api.ByReset); got != want {
		t.Errorf("%v, not %v", got, want)
	}
	for i, off := range []uint32{0, 0, 0x100, 0x1FF, 0x1FE, 0x1FFE, 0x1FFF, 0} {
		if x := b.Trace()[i]; x.Addr != off || x.Write || x.Data != image()[off] {
			t.Errorf("access %d: %v", i, x)
		}
	}
}
