package isa_test

import (
	"slices"
	"testing"

	"gannet/api"
	"gannet/enter"
	"gannet/isa"
	"gannet/opcode"
)

// kinds is all kinds of entries, and such as are none.
var kinds = []uint8{api.Nothing, api.ByReset, api.ByNmi, api.ByTimer, api.ByIrq1, api.ByIrq2, 6, 255}

// P28.1: the registers are those; the bus is not touched.
func TestNew(t *testing.T) {
	for _, s := range []api.State{{}, base(), {A: 1, X: 2, Y: 3, S: 4, P: 0xFF, PC: 5, Mpr: [8]byte{6, 7, 8, 9, 10, 11, 12, 13}, Last: 14}} {
		b := on(t, image(), 100)
		b.Ask(true)
		c := isa.New(s, b)
		if got := c.State(); got != s || len(b.Trace()) != 0 || b.Left() != 100 || b.Fast() {
			t.Errorf("%v, not %v", got, s)
		}
	}
}

// P28.1: Fast is as the bus has it, whatever the registers tell.
func TestStateFast(t *testing.T) {
	for _, told := range []bool{false, true} {
		b, s := on(t, image(), 100), base()
		s.Fast = told
		c := isa.New(s, b)
		for _, fast := range []bool{false, true, false} {
			b.Ask(fast)
			b.Turn()
			want := s
			want.Fast = fast
			if got := c.State(); got != want || b.Fast() != fast {
				t.Errorf("told %v, fast %v: %v", told, fast, got)
			}
		}
	}
}

// P28.1: an entry is enter.Do: its accesses, and the registers behind.
func TestEnter(t *testing.T) {
	for _, kind := range kinds {
		for _, fast := range []bool{false, true} {
			edges := []api.Edge{{Stamp: 5, Line: api.LineNmi, Up: true}}
			s := with(t, base(), "A=81 X=82 Y=83 S=01 P=NVTBDZC PC=4321 M7=03 L=07")
			b := on(t, image(), 100, edges...)
			b.Ask(fast)
			b.Turn()
			b.Read(0, api.Fetch)
			b.Read(0, api.Fetch)
			b.Ask(!fast)
			other := b.Clone()
			c := isa.New(s, b)
			c.Enter(kind)
			want := enter.Do(other, s, kind)
			want.Fast = other.Fast()
			if got := c.State(); got != want || !slices.Equal(b.Trace(), other.Trace()) || b.Fast() != other.Fast() || b.Status() != other.Status() || ram(b) != ram(other) {
				t.Errorf("kind %d: %v, not %v; %s", kind, got, want, told(b.Trace()))
			}
		}
	}
}

// P28.1: entries that are written here.
func TestEnterByHand(t *testing.T) {
	b := on(t, image(), 100)
	c := isa.New(with(t, base(), "P=NTD"), b)
	c.Enter(api.ByIrq1)
	if got, want := c.State(), with(t, base(), "S=FC P=NI PC=E115"); got != want {
		t.Errorf("irq1: %v, not %v", got, want)
	}
	if got := told(b.Trace()); got != "D0:EA D0:EA P1F01FF:E0 P1F01FE:00 P1F01FD:88 V1FF8:15 V1FF9:E1 D0:EA" {
		t.Errorf("irq1: %s", got)
	}
	b = on(t, image(), 100)
	c = isa.New(with(t, base(), "P=NTD M7=03"), b)
	c.Enter(api.ByReset)
	if got, want := c.State(), with(t, base(), "S=FC P=NI PC=E000 M7=00"); got != want {
		t.Errorf("reset: %v, not %v", got, want)
	}
	if got := told(b.Trace()); got != "D0:EA D0:EA D1F01FF:00 D1F01FE:00 D1F01FD:00 V1FFE:00 V1FFF:E0 D0:EA" {
		t.Errorf("reset: %s", got)
	}
}

// P28.1: of nil nothing happens, and it has no registers.
func TestNil(t *testing.T) {
	var c *isa.Core
	for _, kind := range kinds {
		c.Enter(kind)
		if got, b := c.State(), c.Step(); got != (api.State{}) || b != 0 {
			t.Errorf("%v, %#x", got, b)
		}
	}
}

// P28.2: an image's program, step by step.
func TestStep(t *testing.T) {
	s := base()
	b := laid(t, s, "A9 00 8D 10 20 E8 D0 FD", "", 1000)
	c := isa.New(s, b)
	for i, x := range []struct {
		byte  byte
		state string
	}{{0xA9, "P=Z PC=E002"}, {0x8D, "PC=E005"}, {0xE8, "X=01 P= PC=E006"}, {0xD0, "PC=E005"}, {0xE8, "X=02 PC=E006"}, {0xD0, "PC=E005"}} {
		s = with(t, s, x.state)
		if got := c.Step(); got != x.byte || c.State() != s {
			t.Errorf("step %d: %#x, %v, not %#x, %v", i, got, c.State(), x.byte, s)
		}
	}
	if got := told(b.Trace()); got != "F0:A9 O1:00 F2:8D O3:10 O4:20 D5:E8 S1F0010:00 F5:E8 D6:D0 F6:D0 O7:FD D8:EA D8:EA F5:E8 D6:D0 F6:D0 O7:FD D8:EA D8:EA" {
		t.Errorf("%s", got)
	}
}

// extra is how many accesses an instruction takes beyond those of layer 23, of registers P, and with a block of three bytes.
func extra(op opcode.Op, p byte, taken bool) int {
	n := 0
	if p&api.FlagT != 0 && is(op.Name, "AND ORA EOR ADC") {
		n += 3
	}
	if p&api.FlagD != 0 && is(op.Name, "ADC SBC") {
		n++
	}
	if taken {
		n += 2
	}
	if op.Mode == opcode.Block {
		n += 18
	}
	return n
}

// P28.8: how many accesses each of all bytes takes, with each flag set and clear.
func TestCounts(t *testing.T) {
	branches := map[string]byte{"BPL": api.FlagN, "BMI": api.FlagN, "BVC": api.FlagV, "BVS": api.FlagV, "BCC": api.FlagC, "BCS": api.FlagC, "BNE": api.FlagZ, "BEQ": api.FlagZ}
	for n := range 256 {
		for _, p := range []byte{0, 0xFF, api.FlagN, api.FlagV, api.FlagT, api.FlagB, api.FlagD, api.FlagI, api.FlagZ, api.FlagC, api.FlagT | api.FlagD} {
			s := base()
			s.P = p
			b := laid(t, s, digits(n)+" 10 30 20 20 03 00", "", 100)
			isa.New(s, b).Step()
			op := opcode.Of(byte(n))
			flag, ok := branches[op.Name]
			// What is read of memory is 0, so that each bit is clear.
			taken := ok && p&flag != 0 == is(op.Name, "BMI BVS BCS BEQ") || is(op.Name[:3], "BBR")
			if got, want := len(b.Trace()), op.Cycles+extra(op, p, taken); got != want {
				t.Errorf("%s, %#x, P %#x: %d accesses, not %d", op.Name, n, p, got, want)
			}
			l := b.Trace()
			for i, x := range l {
				if (x.Kind == api.Fetch) != (i == 0) {
					t.Errorf("%s, %#x: access %d is %v", op.Name, n, i, x)
				}
			}
		}
	}
}

// P28.2: a budget that ends within an instruction: what was done till then is as ever.
func TestBudget(t *testing.T) {
	for n := range 256 {
		code := digits(n) + " 10 30 20 20 03 00"
		whole := laid(t, base(), code, "10:81,82", 1000)
		isa.New(base(), whole).Step()
		full := whole.Trace()
		for budget := range len(full) + 2 {
			b := laid(t, base(), code, "10:81,82", int64(budget))
			got := isa.New(base(), b).Step()
			if l := b.Trace(); !slices.Equal(l, full[:min(budget, len(full))]) || b.Over() != (budget < len(full)) {
				t.Errorf("%#x, budget %d: %s", n, budget, told(l))
			}
			if want := byte(n); budget > 0 && got != want || budget == 0 && got != 255 {
				t.Errorf("%#x, budget %d: %#x was fetched", n, budget, got)
			}
		}
	}
}

// P5: two cores on two buses have nothing to do with one another; two on one bus work on it.
func TestApart(t *testing.T) {
	s := base()
	b, other := laid(t, s, "A9 05 85 10", "", 100), laid(t, s, "A9 06 85 11", "", 100)
	c, d := isa.New(s, b), isa.New(s, other)
	for range 2 {
		c.Step()
		d.Step()
	}
	if c.State() != with(t, s, "A=05 PC=E004") || d.State() != with(t, s, "A=06 PC=E004") || ram(b) != "10:05" || ram(other) != "11:06" {
		t.Errorf("%v, %v", c.State(), d.State())
	}
	e := isa.New(s, b)
	if e.Step(); len(b.Trace()) != 8 || c.State() != with(t, s, "A=05 PC=E004") || e.State() != with(t, s, "A=05 PC=E002") {
		t.Errorf("%v, %v", c.State(), e.State())
	}
}

// The examples of the chapter.
func TestExamples(t *testing.T) {
	all(t, []step{{"A9 00", "A=01", "", "F0:A9 O1:00", "A=00 P=Z PC=E002", "-"}})
	for _, length := range []int{1, 2, 100} {
		b := laid(t, base(), "73 00 60 00 20 "+digits(length)+" 00", "", 10000)
		if isa.New(base(), b).Step(); len(b.Trace()) != 17+6*length {
			t.Errorf("%d bytes: %d accesses", length, len(b.Trace()))
		}
	}
}
