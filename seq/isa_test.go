package seq_test

import (
	"slices"
	"testing"

	"gannet/api"
	"gannet/bus"
	"gannet/enter"
	"gannet/isa"
	"gannet/micro"
	"gannet/opcode"
	"gannet/seq"
	"gannet/state"
	"gannet/timing"
)

// steps does an instruction as layer 28 has it, on another bus, and cycle by cycle, and holds both against one another.
func steps(t *testing.T, s api.State, b *bus.Bus) {
	t.Helper()
	other := b.Clone()
	c, q := isa.New(s, other), seq.New(s, b)
	code := c.Step()
	l := other.Trace()
	program := ops(code, s, l)
	follows(t, q, b, program)
	if got, want := q.State(), c.State(); got != want {
		t.Errorf("%#x, %s:\n%s, not\n%s", code, state.Text(s), state.Text(got), state.Text(want))
	}
	if u := alike(b, other); u != "" {
		t.Errorf("%#x, %s: %s", code, state.Text(s), u)
	}
}

// P32.6: each of all 256 bytes, each flag set and clear, with memory that has all bits set and clear, so that branches are taken and not; and a block of three bytes.
func TestEach(t *testing.T) {
	for n := range 256 {
		for _, p := range []byte{0, 0xFF, api.FlagN, api.FlagV, api.FlagT, api.FlagB, api.FlagD, api.FlagI, api.FlagZ, api.FlagC, api.FlagT | api.FlagD} {
			for _, memory := range []string{"00 00", "FF FF", "99 20"} {
				s := with(t, base(), "A=96 X=03 Y=07 L=55")
				s.P = p
				b := laid(t, s, "EA 10 30 20 20 03 00", memory, 100)
				code := append([]byte{byte(n)}, bytes(t, "10 30 20 20 03 00")...)
				steps(t, s, lay(t, s, code, append(make([]byte, 0x10), bytes(t, memory)...), 100))
				if b.Over() {
					t.Fatal("a budget too small")
				}
			}
		}
	}
}

// P32.6: each of all 256 bytes, of registers, pages, memories and bytes behind of all sorts.
func TestAll(t *testing.T) {
	x := chance(7)
	for range 60 {
		memory := x.bytes(1024)
		for n := range 256 {
			s := x.any()
			code := append([]byte{byte(n)}, x.bytes(6)...)
			// Blocks are short.
			code[5], code[6] = byte(x.next(20)+1), 0
			b := lay(t, s, code, memory, 1000)
			b.Ask(x.next(2) == 0)
			b.Turn()
			if s.Fast = b.Fast(); b.Peek(uint32(s.Mpr[s.PC>>13])<<13|uint32(s.PC&0x1FFF)) != byte(n) {
				t.Fatal("the byte isn't there")
			}
			steps(t, s, b)
		}
	}
}

// P32.6: blocks of each kind, of more bytes, all 65536 of them, too.
func TestBlocks(t *testing.T) {
	for _, code := range []byte{0x73, 0xC3, 0xD3, 0xE3, 0xF3} {
		for _, length := range []int{1, 2, 255, 256, 1000} {
			s := with(t, base(), "M0=03 M4=01 M5=02 A=11 X=22 Y=33")
			steps(t, s, lay(t, s, []byte{code, 0xF8, 0x7F, 0x05, 0xC0, byte(length), byte(length / 256)}, nil, 1<<20))
		}
		s := with(t, base(), "M0=03 M4=01 M5=02 A=11 X=22 Y=33")
		b := lay(t, s, []byte{code, 0xF8, 0x7F, 0x05, 0xC0, 0, 0}, nil, 1<<20)
		other := b.Clone()
		c, q := isa.New(s, other), seq.New(s, b)
		c.Step()
		if !q.Step() || len(b.Trace()) != timing.Longest() || q.State() != c.State() {
			t.Errorf("%#x: %d accesses, %v, not %v", code, len(b.Trace()), q.State(), c.State())
		}
		if u := alike(b, other); u != "" {
			t.Errorf("%#x: %s", code, u)
		}
	}
}

// P32.3, P32.6: an entry of each kind is what enter.Do does; as soon as it is entered the bus is told.
func TestEntries(t *testing.T) {
	x := chance(3)
	for n := range 200 {
		for kind := uint8(api.ByReset); kind <= api.ByIrq2; kind++ {
			s := x.any()
			if n == 0 {
				s = with(t, base(), "A=81 X=82 Y=83 S=01 P=NVTBDZC PC=4321 M7=03 L=07")
			}
			b := lay(t, s, nil, x.bytes(1024), 100)
			b.Ask(x.next(2) == 0)
			b.Turn()
			// The timer runs, something is disabled, and nmi rises.
			for _, a := range []uint32{0x1FEC01, 0x1FF402} {
				b.Write(a, 7, api.Store)
			}
			b.Ask(x.next(2) == 0)
			s.Fast = b.Fast()
			other := b.Clone()
			q := seq.New(s, b)
			before := b.Status()
			if !q.Enter(kind) || q.Idle() || q.State() != s || q.Steps() != 0 || len(b.Trace()) != 2 {
				t.Fatalf("kind %d: %v, %v", kind, q.Idle(), q.State())
			}
			after := b.Status()
			if before.Nmi != true || after.Nmi != (kind != api.ByNmi) || before.On != true || after.On != (kind != api.ByReset) || after.Disable != map[bool]byte{true: 0, false: 7}[kind == api.ByReset] {
				t.Errorf("kind %d: %v, then %v", kind, before, after)
			}
			follows(t, q, b, micro.Entry(kind))
			want := enter.Do(other, s, kind)
			want.Fast = other.Fast()
			if got := q.State(); got != want {
				t.Errorf("kind %d, %s:\n%s, not\n%s", kind, state.Text(s), state.Text(got), state.Text(want))
			}
			if u := alike(b, other); u != "" {
				t.Errorf("kind %d, %s: %s", kind, state.Text(s), u)
			}
		}
	}
}

// P32.3: entries that are written here.
func TestEntriesByHand(t *testing.T) {
	b := on(t, image(), 100)
	q := seq.New(with(t, base(), "P=NTD"), b)
	if !q.Enter(api.ByIrq1) || !q.Step() {
		t.Error("irq1")
	}
	if got, want := q.State(), with(t, base(), "S=FC P=NI PC=E115"); got != want {
		t.Errorf("irq1: %v, not %v", got, want)
	}
	if got := told(b.Trace()); got != "D0:EA D0:EA P1F01FF:E0 P1F01FE:00 P1F01FD:88 V1FF8:15 V1FF9:E1 D0:EA" {
		t.Errorf("irq1: %s", got)
	}
	b = on(t, image(), 100)
	b.Ask(true)
	b.Turn()
	q = seq.New(with(t, base(), "P=NTD M7=03 S=01"), b)
	if !q.Enter(api.ByReset) || !q.Step() {
		t.Error("reset")
	}
	if got, want := q.State(), with(t, base(), "S=FE P=NI PC=E000 M7=00"); got != want {
		t.Errorf("reset: %v, not %v", got, want)
	}
	if got := told(b.Trace()); got != "D0:EA D0:EA D1F0101:00 D1F0100:00 D1F01FF:00 V1FFE:00 V1FFF:E0 D0:EA" {
		t.Errorf("reset: %s", got)
	}
}

// P32.3: nothing is entered of no such kind, nor in the middle of an instruction, or of an entry: nothing happens.
func TestEnterRefused(t *testing.T) {
	for _, x := range []struct {
		name          string
		ahead, cycles int
		kinds         []uint8
	}{
		{"a boundary", 0, 0, []uint8{api.Nothing, 6, 7, 255}},
		{"an instruction", 0, 1, []uint8{0, 1, 2, 3, 4, 5, 6, 255}},
		{"an instruction", 0, 4, []uint8{0, 1, 2, 3, 4, 5, 6, 255}},
		{"an entry, ahead", api.ByIrq2, 0, []uint8{0, 1, 2, 3, 4, 5, 6, 255}},
		{"an entry", api.ByIrq2, 1, []uint8{0, 1, 2, 3, 4, 5, 6, 255}},
		{"a reset, ahead", api.ByReset, 0, []uint8{0, 1, 2, 3, 4, 5, 6, 255}},
		{"a reset", api.ByReset, 7, []uint8{0, 1, 2, 3, 4, 5, 6, 255}},
	} {
		for _, kind := range x.kinds {
			run := func(kind uint8) (*seq.Seq, *bus.Bus, bool) {
				b := laid(t, base(), "AD 10 20 EA 65 11", "81 05", 100)
				b.Write(0x1FF402, 7, api.Store)
				b.Read(0, api.Load)
				q := seq.New(base(), b)
				if x.ahead != api.Nothing && !q.Enter(uint8(x.ahead)) {
					t.Errorf("%s: not entered", x.name)
				}
				for range x.cycles {
					q.Cycle()
				}
				entered := kind != api.Nothing && q.Enter(kind)
				return q, b, entered
			}
			q, b, entered := run(kind)
			r, other, _ := run(api.Nothing)
			if kind == api.Nothing {
				entered = q.Enter(kind)
			}
			got, _ := q.Next()
			want, _ := r.Next()
			if u := alike(b, other); entered || u != "" || got != want || q.Idle() != r.Idle() || q.State() != r.State() || q.Steps() != r.Steps() {
				t.Errorf("%s, kind %d: %v, %s", x.name, kind, entered, u)
			}
			q.Step()
			r.Step()
			if u := alike(b, other); u != "" || q.State() != r.State() {
				t.Errorf("%s, kind %d, behind it: %s", x.name, kind, u)
			}
		}
	}
}

// P32.3: T stays over an entry, and is pushed clear; the instruction behind RTI has it no more.
func TestEnterT(t *testing.T) {
	s := with(t, base(), "X=10")
	b := laid(t, s, "F4 69 01", "05", 100)
	q := seq.New(s, b)
	q.Step()
	if q.State().P != api.FlagT || !q.Enter(api.ByNmi) {
		t.Errorf("%v", q.State())
	}
	if q.Step(); q.State() != with(t, s, "S=FC P=I PC=E40B") {
		t.Errorf("%v", q.State())
	}
	if got := told(b.Trace()); got != "F0:F4 D1:69 D1:69 D1:69 P1F01FF:E0 P1F01FE:01 P1F01FD:00 V1FFC:0B V1FFD:E4 D1:69" {
		t.Errorf("%s", got)
	}
}

// P32.6: many instructions, one behind the other, with entries between, up to the end of the bus, in cycles and in steps.
func TestMany(t *testing.T) {
	for seed := range 40 {
		x := chance(seed)
		b := on(t, x.bytes(4*api.PageSize), 20000)
		b.Fill([]api.Piece{{Bytes: x.bytes(api.PageSize)}})
		s := x.any()
		s.Fast = false
		other := b.Clone()
		c, q := isa.New(s, other), seq.New(s, b)
		for i := 1; ; i++ {
			was := c.State()
			if kind := uint8(x.next(7)); x.next(30) == 0 && kind != api.Nothing && kind < 6 {
				c.Enter(kind)
				q.Enter(kind)
			} else {
				c.Step()
			}
			if x.next(2) == 0 {
				q.Step()
			} else {
				for !q.Cycle() && !b.Over() {
				}
			}
			if other.Over() {
				if !b.Over() || !q.Idle() && (q.State() != was || q.Steps() != i-1) {
					t.Errorf("seed %d, at last: %v, not %v", seed, q.State(), was)
				}
				break
			}
			if q.State() != c.State() || q.Steps() != i || !q.Idle() {
				t.Fatalf("seed %d, step %d: %s, not\n%s", seed, i, state.Text(q.State()), state.Text(c.State()))
			}
		}
		if l, k := b.Trace(), other.Trace(); !slices.Equal(l, k) {
			t.Errorf("seed %d: accesses", seed)
		}
	}
}

// P32.4, P32.6: a budget that ends within an instruction: what was done till then is as ever, the registers are those ahead; and if cycles go on, they come to what layer 28 comes to.
func TestBudget(t *testing.T) {
	for n := range 256 {
		code := append([]byte{byte(n)}, bytes(t, "10 30 20 20 03 00")...)
		s := with(t, base(), "X=01 P=TD")
		zero := append(make([]byte, 0x10), 0x81, 0x82)
		whole := lay(t, s, code, zero, 1000)
		seq.New(s, whole).Step()
		full := whole.Trace()
		for budget := range len(full) + 1 {
			b := lay(t, s, code, zero, int64(budget))
			other := b.Clone()
			c, q := isa.New(s, other), seq.New(s, b)
			c.Step()
			if got := q.Step(); got != (budget == len(full)) || b.Over() == got {
				t.Errorf("%#x, budget %d: %v", n, budget, got)
			}
			if !slices.Equal(b.Trace(), full[:budget]) {
				t.Errorf("%#x, budget %d: %s", n, budget, told(b.Trace()))
			}
			if budget < len(full)-1 && budget > 0 && (q.Idle() || q.State() != s || q.Steps() != 0) && opcode.Of(byte(n)).Mode != opcode.Block {
				t.Errorf("%#x, budget %d: %v", n, budget, q.State())
			}
			for range 40 {
				if q.Idle() {
					break
				}
				q.Cycle()
			}
			if u := alike(b, other); u != "" || q.State() != c.State() {
				t.Errorf("%#x, budget %d: %s; %v, not %v", n, budget, u, q.State(), c.State())
			}
		}
	}
}
