package isa_test

import (
	"testing"

	"gannet/api"
	"gannet/isa"
)

// P28.5: registers are moved, counted and cleared, each in one access more.
func TestRegisters(t *testing.T) {
	all(t, []step{
		{"AA", "A=80 X=05 Y=06", "", "F0:AA D1:EA", "X=80 P=N PC=E001", "-"},
		{"A8", "A=00 X=05 Y=06", "", "F0:A8 D1:EA", "Y=00 P=Z PC=E001", "-"},
		{"BA", "A=01 X=05 S=90", "", "F0:BA D1:EA", "X=90 P=N PC=E001", "-"},
		{"8A", "A=01 X=05 P=NZVC", "", "F0:8A D1:EA", "A=05 P=VC PC=E001", "-"},
		{"98", "A=01 X=05 Y=00", "", "F0:98 D1:EA", "A=00 P=Z PC=E001", "-"},
		{"9A", "A=01 X=00 P=N", "", "F0:9A D1:EA", "S=00 PC=E001", "-"},
		{"9A", "X=80", "", "F0:9A D1:EA", "S=80 PC=E001", "-"},
		{"E8", "X=FF Y=05", "", "F0:E8 D1:EA", "X=00 P=Z PC=E001", "-"},
		{"E8", "X=7F P=C", "", "F0:E8 D1:EA", "X=80 P=NC PC=E001", "-"},
		{"C8", "X=05 Y=FE", "", "F0:C8 D1:EA", "Y=FF P=N PC=E001", "-"},
		{"CA", "X=00 Y=05", "", "F0:CA D1:EA", "X=FF P=N PC=E001", "-"},
		{"CA", "X=01 P=V", "", "F0:CA D1:EA", "X=00 P=VZ PC=E001", "-"},
		{"88", "X=05 Y=81", "", "F0:88 D1:EA", "Y=80 P=N PC=E001", "-"},
		{"62", "A=81 X=82 Y=83 P=N", "", "F0:62 D1:EA", "A=00 PC=E001", "-"},
		{"82", "A=81 X=82 Y=83 P=N", "", "F0:82 D1:EA", "X=00 PC=E001", "-"},
		{"C2", "A=81 X=82 Y=83 P=N", "", "F0:C2 D1:EA", "Y=00 PC=E001", "-"},
		{"EA", "A=81 X=82 Y=83 P=NVBDIZC", "", "F0:EA D1:EA", "PC=E001", "-"},
	})
}

// P28.5: one flag each is cleared, or set; of all others none, but T, which is clear behind all but SET.
func TestFlags(t *testing.T) {
	all(t, []step{
		{"18", "P=NVTBDIZC", "", "F0:18 D1:EA", "P=NVBDIZ PC=E001", "-"},
		{"D8", "P=NVTBDIZC", "", "F0:D8 D1:EA", "P=NVBIZC PC=E001", "-"},
		{"58", "P=NVTBDIZC", "", "F0:58 D1:EA", "P=NVBDZC PC=E001", "-"},
		{"B8", "P=NVTBDIZC", "", "F0:B8 D1:EA", "P=NBDIZC PC=E001", "-"},
		{"38", "P=", "", "F0:38 D1:EA", "P=C PC=E001", "-"},
		{"F8", "P=", "", "F0:F8 D1:EA", "P=D PC=E001", "-"},
		{"78", "P=", "", "F0:78 D1:EA", "P=I PC=E001", "-"},
		{"F4", "P=", "", "F0:F4 D1:EA", "P=T PC=E001", "-"},
		{"F4", "P=NVTBDIZC", "", "F0:F4 D1:EA", "P=NVTBDIZC PC=E001", "-"},
		{"18", "P=", "", "F0:18 D1:EA", "P= PC=E001", "-"},
		{"38", "P=C", "", "F0:38 D1:EA", "P=C PC=E001", "-"},
	})
}

// P28.5: two registers are changed for one another, without any flag.
func TestExchanges(t *testing.T) {
	all(t, []step{
		{"22", "A=80 X=00 Y=03 P=C", "", "F0:22 D1:EA D1:EA", "A=00 X=80 PC=E001", "-"},
		{"42", "A=01 X=02 Y=80", "", "F0:42 D1:EA D1:EA", "A=80 Y=01 PC=E001", "-"},
		{"02", "A=01 X=00 Y=83", "", "F0:02 D1:EA D1:EA", "X=83 Y=00 PC=E001", "-"},
	})
}

// P28.5: A is moved to pages: to none, one, many and all of them; only behind all accesses.
func TestPagesSet(t *testing.T) {
	all(t, []step{
		{"53 00", "A=42", "", "F0:53 O1:00 D2:EA D2:EA D2:EA", "L=42 PC=E002", "-"},
		{"53 04", "A=42 L=07 P=Z", "", "F0:53 O1:04 D2:EA D2:EA D2:EA", "M2=42 L=42 PC=E002", "-"},
		{"53 81", "A=00 L=07", "", "F0:53 O1:81 D2:EA D2:EA D2:EA", "M0=00 M7=00 L=00 PC=E002", "-"},
		{"53 80", "A=F8", "", "F0:53 O1:80 D2:EA D2:EA D2:EA", "M7=F8 L=F8 PC=E002", "-"},
		{"53 FF", "A=02", "", "F0:53 O1:FF D2:EA D2:EA D2:EA", "M0=02 M1=02 M2=02 M3=02 M4=02 M5=02 M6=02 M7=02 L=02 PC=E002", "-"},
	})
}

// P28.5: A is what is in the lowest page of those that are asked for, or what was moved last.
func TestPagesGot(t *testing.T) {
	all(t, []step{
		{"43 00", "A=42 L=81", "", "F0:43 O1:00 D2:EA D2:EA", "A=81 PC=E002", "-"},
		{"43 02", "A=42 L=81 P=Z", "", "F0:43 O1:02 D2:EA D2:EA", "A=F8 L=F8 PC=E002", "-"},
		{"43 30", "A=42", "", "F0:43 O1:30 D2:EA D2:EA", "A=80 L=80 PC=E002", "-"},
		{"43 80", "A=42 L=81", "", "F0:43 O1:80 D2:EA D2:EA", "A=00 L=00 PC=E002", "-"},
		{"43 FF", "A=42", "", "F0:43 O1:FF D2:EA D2:EA", "A=FF L=FF PC=E002", "-"},
	})
}

// P28.5: what is moved to a page is where the next instruction is read.
func TestPagesNext(t *testing.T) {
	s := with(t, base(), "A=01")
	b := laid(t, s, "53 80", "", 100)
	c := isa.New(s, b)
	c.Step()
	if c.Step(); told(b.Trace()[5:6]) != "F2002:12" {
		t.Errorf("%s", told(b.Trace()))
	}
}

// P28.5: a byte is written to a device's port, whatever the pages are.
func TestPorts(t *testing.T) {
	all(t, []step{
		{"03 45", "A=01", "", "F0:03 O1:45 D2:EA S1FE000:45", "PC=E002", "-"},
		{"13 46", "P=NZ", "", "F0:13 O1:46 D2:EA S1FE002:46", "PC=E002", "-"},
		{"23 00", "M0=01", "", "F0:23 O1:00 D2:EA S1FE003:00", "PC=E002", "-"},
		{"13 47", "M0=00 M1=00 M2=00 M3=00 M4=00 M5=00 M6=00", "", "F0:13 O1:47 D2:EA S1FE002:47", "PC=E002", "-"},
	})
}

// P28.2, P28.5: another speed holds from the first access behind the instruction on.
func TestSpeeds(t *testing.T) {
	s := base()
	b := laid(t, s, "D4 EA 8D 00 00 54 EA", "", 100)
	c := isa.New(s, b)
	for range 2 {
		c.Step()
	}
	if !c.State().Fast {
		t.Error("not fast")
	}
	for range 3 {
		c.Step()
	}
	if c.State().Fast || b.Fast() {
		t.Error("not slow")
	}
	// CSH, NOP, STA, of which the last access goes to a device, CSL, NOP.
	want := []int64{0, 12, 24, 36, 39, 42, 45, 48, 51, 54, 60, 63, 66, 69, 81}
	if told(b.Trace()) != "F0:D4 D1:EA D1:EA F1:EA D2:8D F2:8D O3:00 O4:00 D5:54 S1FE000:00 F5:54 D6:EA D6:EA F6:EA D7:EA" {
		t.Errorf("%s", told(b.Trace()))
	}
	for i, x := range b.Trace() {
		if x.Stamp != want[i] {
			t.Errorf("access %d at %d, not %d", i, x.Stamp, want[i])
		}
	}
	for _, code := range []string{"D4", "54"} {
		b := laid(t, s, code, "", 100)
		b.Ask(true)
		b.Turn()
		c := isa.New(s, b)
		if c.Step(); b.Now() != 9 || b.Fast() != (code == "D4") || c.State() != with(t, s, "PC=E001 F="+map[bool]string{true: "1", false: "0"}[b.Fast()]) {
			t.Errorf("%s of a fast one: at %d, %v", code, b.Now(), c.State())
		}
	}
}

// P28.2: the bus has its Turn behind each instruction, whatever it is.
func TestTurn(t *testing.T) {
	for n := range 256 {
		s := base()
		b := laid(t, s, digits(n)+" 10 20 30 20 01 00", "", 100)
		b.Ask(true)
		isa.New(s, b).Step()
		l := b.Trace()
		if want := n != 0x54; b.Fast() != want {
			t.Errorf("%#x: fast %v", n, b.Fast())
		}
		if behind := b.Now() - l[len(l)-1].Stamp; behind != 12 && behind != 24 {
			t.Errorf("%#x: its last access has %d", n, behind)
		}
	}
}

// P28.2: a byte that isn't known has one access more, and does nothing but that T is clear.
func TestUnknown(t *testing.T) {
	count := 0
	for n := range 256 {
		row := n / 16
		if n%16 != 0x0B && n != 0x33 && n != 0x63 && n != 0xE2 && !(n%16 == 0x0C && (row == 5 || row == 13 || row == 15)) {
			continue
		}
		count++
		done(t, step{digits(n), "A=81 X=82 Y=83 S=84 P=NVTBDIZC L=07", "2:5", "F0:" + digits(n) + " D1:EA", "PC=E001", "-"})
		done(t, step{digits(n), "PC=FFFF M0=01 P=Z", "", "F1FFF:" + digits(n) + " D2000:10", "PC=0000", "-"})
	}
	if count != 22 {
		t.Errorf("%d of them", count)
	}
}

// P28.1: an unmade core, a core without a bus.
func TestUnmade(t *testing.T) {
	for _, c := range []*isa.Core{new(isa.Core), isa.New(api.State{}, nil), isa.New(base(), nil)} {
		for kind := range 256 {
			c.Enter(uint8(kind))
			c.Step()
			c.State()
		}
	}
}
