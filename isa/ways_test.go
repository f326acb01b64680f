package isa_test

import (
	"testing"

	"gannet/api"
	"gannet/isa"
)

// P28.6: each branch is taken by its flag alone, and isn't without; none changes a flag.
func TestBranches(t *testing.T) {
	for _, c := range []struct{ code, taken, not string }{
		{"10", "P=VTBDIZC", "P=NVBDIZC"}, {"30", "P=N", "P=VBDIZC"},
		{"50", "P=NBDIZC", "P=V"}, {"70", "P=V", "P=NBDIZC"},
		{"90", "P=NVBDIZ", "P=C"}, {"B0", "P=C", "P=NVBDIZ"},
		{"D0", "P=NVBDIC", "P=Z"}, {"F0", "P=Z", "P=NVBDIC"},
	} {
		all(t, []step{
			{c.code + " 05", c.taken, "", "F0:" + c.code + " O1:05 D2:EA D2:EA", "PC=E007", "-"},
			{c.code + " 80", c.taken, "", "F0:" + c.code + " O1:80 D2:EA D2:EA", "PC=DF82", "-"},
			{c.code + " 7F", c.taken + " PC=E100", "", "F100:" + c.code + " O101:7F D102:EA D102:EA", "PC=E181", "-"},
			{c.code + " 05", c.not, "", "F0:" + c.code + " O1:05", "PC=E002", "-"},
			{c.code + " FE", c.not, "", "F0:" + c.code + " O1:FE", "PC=E002", "-"},
		})
	}
}

// P28.6: BRA and BSR are always taken; ways go round at both ends of all addresses.
func TestBranchesAround(t *testing.T) {
	all(t, []step{
		{"80 FE", "P=NVBDIZC", "", "F0:80 O1:FE D2:EA D2:EA", "PC=E000", "-"},
		{"80 00", "P=", "", "F0:80 O1:00 D2:EA D2:EA", "PC=E002", "-"},
		{"80 7F", "PC=FF90", "", "F1F90:80 O1F91:7F D1F92:EA D1F92:EA", "PC=0011", "-"},
		{"80 80", "PC=0010 M0=01", "", "F2010:80 O2011:80 D2012:22 D2012:22", "PC=FF92", "-"},
		{"D0 10", "PC=FFFE M0=01", "", "F1FFE:D0 O1FFF:10 D2000:10 D2000:10", "PC=0010", "-"},
		{"F0 F0", "PC=FFFF M0=01 P=Z", "", "F1FFF:F0 O2000:F0 D2001:11 D2001:11", "PC=FFF1", "-"},
		{"F0 F0", "PC=FFFF M0=01", "", "F1FFF:F0 O2000:F0", "PC=0001", "-"},
		{"44 10", "", "", "F0:44 O1:10 D2:EA P1F01FF:E0 P1F01FE:01 D2:EA D2:EA D2:EA", "S=FD PC=E012", "1FE:01,E0"},
		{"44 FD", "PC=0000 M0=01 S=00", "", "F2000:44 O2001:FD D2002:12 P1F0100:00 P1F01FF:01 D2002:12 D2002:12 D2002:12", "S=FE PC=FFFF", "1FF:01"},
	})
}

// P28.6: by each bit, clear or set, of what is read.
func TestBranchesByBits(t *testing.T) {
	for n := range 8 {
		r, s := digits(0x0F+0x10*n), digits(0x8F+0x10*n)
		bit, others := digits(1<<n), digits(0xFF-1<<n)
		read := func(code, v string) string {
			return "F0:" + code + " O1:10 O2:F0 D3:EA L1F0010:" + v + " D3:EA"
		}
		all(t, []step{
			{r + " 10 F0", "X=01 P=NVBDIZC", "10:" + others, read(r, others) + " D3:EA D3:EA", "PC=DFF3", "-"},
			{r + " 10 F0", "X=01", "10:" + bit, read(r, bit), "PC=E003", "-"},
			{s + " 10 F0", "X=01 P=NVBDIZC", "10:" + bit, read(s, bit) + " D3:EA D3:EA", "PC=DFF3", "-"},
			{s + " 10 F0", "X=01", "10:" + others, read(s, others), "PC=E003", "-"},
		})
	}
}

// P28.6: where one jumps to, by each mode; pointers go on behind a page's end, and go round.
func TestJumps(t *testing.T) {
	all(t, []step{
		{"4C 34 12", "", "", "F0:4C O1:34 O2:12 D3:EA", "PC=1234", "-"},
		{"4C FF FF", "PC=FFFD", "", "F1FFD:4C O1FFE:FF O1FFF:FF D1FE000:91", "PC=FFFF", "-"},
		{"6C 00 20", "X=01", "0:34,12", "F0:6C O1:00 O2:20 D3:EA L1F0000:34 L1F0001:12 D3:EA", "PC=1234", "-"},
		{"6C FF 20", "", "FF:34,12", "F0:6C O1:FF O2:20 D3:EA L1F00FF:34 L1F0100:12 D3:EA", "PC=1234", "-"},
		{"6C FF 5F", "", "", "F0:6C O1:FF O2:5F D3:EA L3FFF:0F L4000:20 D3:EA", "PC=200F", "-"},
		{"6C FF FF", "M0=01", "", "F0:6C O1:FF O2:FF D3:EA L1FFF:E0 L2000:10 D3:EA", "PC=10E0", "-"},
		{"7C F0 20", "X=20 Y=01", "110:34,12", "F0:7C O1:F0 O2:20 D3:EA L1F0110:34 L1F0111:12 D3:EA", "PC=1234", "-"},
		{"7C F0 5F", "X=0F", "", "F0:7C O1:F0 O2:5F D3:EA L3FFF:0F L4000:20 D3:EA", "PC=200F", "-"},
		{"7C F0 FF", "X=20 M0=02", "", "F0:7C O1:F0 O2:FF D3:EA L4010:30 L4011:31 D3:EA", "PC=3130", "-"},
	})
}

// P28.6: what calls push is the last byte's address; the stack goes round.
func TestCalls(t *testing.T) {
	all(t, []step{
		{"20 34 12", "P=NZ", "", "F0:20 O1:34 O2:12 D3:EA P1F01FF:E0 P1F01FE:02 D3:EA", "S=FD PC=1234", "1FE:02,E0"},
		{"20 34 12", "S=00", "", "F0:20 O1:34 O2:12 D3:EA P1F0100:E0 P1F01FF:02 D3:EA", "S=FE PC=1234", "100:E0 1FF:02"},
		{"20 34 12", "PC=FFFD M0=01 S=01", "", "F1FFD:20 O1FFE:34 O1FFF:12 D2000:10 P1F0101:FF P1F0100:FF D2000:10", "S=FF PC=1234", "100:FF,FF"},
		{"20 34 12", "PC=FFFE M0=01 S=01", "", "F1FFE:20 O1FFF:34 O2000:12 D2001:11 P1F0101:00 P1F0100:00 D2001:11", "S=FF PC=1234", ""},
		{"60", "S=FD P=NZ", "1FE:02,E0", "F0:60 D1:EA D1:EA U1F01FE:02 U1F01FF:E0 D1:EA D1:EA", "S=FF PC=E003", "-"},
		{"60", "S=FE", "100:12 1FF:FF", "F0:60 D1:EA D1:EA U1F01FF:FF U1F0100:12 D1:EA D1:EA", "S=00 PC=1300", "-"},
		{"60", "S=FF", "100:FF,FF", "F0:60 D1:EA D1:EA U1F0100:FF U1F0101:FF D1:EA D1:EA", "S=01 PC=0000", "-"},
	})
}

// P28.6: BRK pushes what is behind its second byte, and P with B; it goes where irq2 goes. RTI comes back from there.
func TestBreaks(t *testing.T) {
	all(t, []step{
		{"00 77", "P=NTDC", "", "F0:00 O1:77 P1F01FF:E0 P1F01FE:02 P1F01FD:99 V1FF6:25 V1FF7:E2 D2:EA", "S=FC P=NIC PC=E225", "1FD:99,02,E0"},
		{"00 77", "S=01 P=BI", "", "F0:00 O1:77 P1F0101:E0 P1F0100:02 P1F01FF:14 V1FF6:25 V1FF7:E2 D2:EA", "S=FE P=I PC=E225", "100:02,E0 1FF:14"},
		{"00 77", "M7=03 PC=E000 P=V", "", "F6000:00 O6001:77 P1F01FF:E0 P1F01FE:02 P1F01FD:50 V7FF6:26 V7FF7:27 D6002:32", "S=FC P=VI PC=2726", "1FD:50,02,E0"},
		{"40", "S=FC P=I", "1FD:99,34,12", "F0:40 D1:EA D1:EA U1F01FD:99 U1F01FE:34 U1F01FF:12 D1:EA", "S=FF P=NDC PC=1234", "-"},
		{"40", "S=FE P=N", "100:34,12 1FF:FF", "F0:40 D1:EA D1:EA U1F01FF:FF U1F0100:34 U1F0101:12 D1:EA", "S=01 P=NVTDIZC PC=1234", "-"},
	})
}

// P28.6: what is pushed, and pulled.
func TestStack(t *testing.T) {
	all(t, []step{
		{"48", "A=81 X=82 Y=83 P=Z", "", "F0:48 D1:EA P1F01FF:81", "S=FE PC=E001", "1FF:81"},
		{"DA", "A=81 X=82 Y=83 S=00", "", "F0:DA D1:EA P1F0100:82", "S=FF PC=E001", "100:82"},
		{"5A", "A=81 X=82 Y=83 S=80", "", "F0:5A D1:EA P1F0180:83", "S=7F PC=E001", "180:83"},
		{"08", "P=NVTDIZC", "", "F0:08 D1:EA P1F01FF:DF", "S=FE PC=E001", "1FF:DF"},
		{"08", "P=", "", "F0:08 D1:EA P1F01FF:10", "S=FE PC=E001", "1FF:10"},
		{"68", "S=FE A=01 P=C", "1FF:80", "F0:68 D1:EA D1:EA U1F01FF:80", "S=FF A=80 P=NC PC=E001", "-"},
		{"68", "S=FF A=01", "", "F0:68 D1:EA D1:EA U1F0100:00", "S=00 A=00 P=Z PC=E001", "-"},
		{"FA", "S=7F X=01 P=N", "180:42", "F0:FA D1:EA D1:EA U1F0180:42", "S=80 X=42 P= PC=E001", "-"},
		{"7A", "S=00 Y=01", "101:43", "F0:7A D1:EA D1:EA U1F0101:43", "S=01 Y=43 PC=E001", "-"},
		{"28", "S=FE P=N", "1FF:DF", "F0:28 D1:EA D1:EA U1F01FF:DF", "S=FF P=NVDIZC PC=E001", "-"},
		{"28", "S=FE P=N", "1FF:30", "F0:28 D1:EA D1:EA U1F01FF:30", "S=FF P=T PC=E001", "-"},
		// Where the stack isn't work memory what is pushed is told alone, and what is there is pulled.
		{"48", "A=81 M1=01", "", "F0:48 D1:EA P21FF:81", "S=FE PC=E001", "-"},
		{"68", "M1=01 S=00", "", "F0:68 D1:EA D1:EA U2101:11", "A=11 S=01 PC=E001", "-"},
	})
}

// steps does so many instructions of a program that begins at PC, and tells the registers behind.
func steps(t *testing.T, s api.State, code string, n int) api.State {
	t.Helper()
	c := isa.New(s, laid(t, s, code, "", 1000))
	for range n {
		c.Step()
	}
	return c.State()
}

// P28.6: what goes there comes back.
func TestThereAndBack(t *testing.T) {
	for _, sp := range []string{"FF", "01", "00"} {
		s := with(t, base(), "P=NC S="+sp)
		// JSR E004, NOP, RTS.
		if got, want := steps(t, s, "20 04 E0 EA 60", 2), with(t, s, "PC=E003"); got != want {
			t.Errorf("JSR, S %s: %v, not %v", sp, got, want)
		}
		// BSR E004, NOP, NOP, RTS.
		if got, want := steps(t, s, "44 02 EA EA 60", 2), with(t, s, "PC=E002"); got != want {
			t.Errorf("BSR, S %s: %v, not %v", sp, got, want)
		}
		// BRK, which goes to E225, where RTI is.
		x := with(t, s, "PC=E200")
		code := "00 00"
		for range 0x23 {
			code += " EA"
		}
		if got, want := steps(t, x, code+" 40", 2), with(t, x, "PC=E202"); got != want {
			t.Errorf("BRK, S %s: %v, not %v", sp, got, want)
		}
	}
}

// P28.2, P28.3: T holds for the next instruction alone, wherever it was set.
func TestNextT(t *testing.T) {
	s := with(t, base(), "A=77 X=10 S=FE")
	for _, c := range []struct {
		code, memory string
		n            int
		want         string
	}{
		{"F4 69 01 69 01", "10:05", 3, "A=78 PC=E005"},                // SET, ADC, ADC: one of them changes memory
		{"F4 EA 69 01", "10:05", 3, "A=78 PC=E004"},                   // SET, NOP, ADC
		{"F4 F4 69 01", "10:05", 3, "PC=E004"},                        // SET, SET, ADC
		{"28 69 01", "10:05 1FF:20", 2, "S=FF PC=E003"},               // PLP, of what has T
		{"F4 08 68 EA", "10:05", 3, "A=10 PC=E003"},                   // SET, PHP, PLA: T isn't pushed
		{"F4 0B 69 01", "10:05", 3, "A=78 PC=E004"},                   // SET, a byte that isn't known
		{"F4 C9 77 09 88", "10:05", 3, "A=FF P=NC PC=E005"},           // SET, CMP, ORA
		{"F4 53 00 09 88", "10:05", 3, "A=FF L=77 P=N PC=E005"},       // SET, TAM
		{"F4 80 00 09 88", "10:05", 3, "A=FF P=N PC=E005"},            // SET, BRA
		{"F4 D4 09 88", "10:05", 3, "A=FF P=N PC=E004 F=1"},           // SET, CSH
		{"F4 73 00 20 00 20 01 00 09 88", "", 3, "A=FF P=N PC=E00A"},  // SET, TII
		{"F4 29 F0 29 F0", "10:35", 3, "A=70 PC=E005"},                // SET, AND, AND
		{"F4 49 FF 49 FF", "10:35", 3, "A=88 P=N PC=E005"},            // SET, EOR, EOR
		{"F4 03 00 69 01", "10:05", 3, "A=78 PC=E005"},                // SET, ST0
		{"F4 E9 00 69 01", "10:05", 3, "A=78 PC=E005"},                // SET, SBC: of A, one less, and then ADC with the carry
		{"F4 0F 10 00 09 88", "10:05", 3, "A=FF P=N PC=E006"},         // SET, BBR0
		{"F4 07 10 09 88", "10:05", 3, "A=FF P=N PC=E005"},            // SET, RMB0
		{"F4 85 10 09 88", "10:05", 3, "A=FF P=N PC=E005"},            // SET, STA
		{"F4 06 10 09 88", "10:05", 3, "A=FF P=N PC=E005"},            // SET, ASL
		{"F4 83 05 10 09 88", "10:05", 3, "A=FF P=N PC=E006"},         // SET, TST
		{"F4 48 09 88", "10:05", 3, "A=FF S=FD P=N PC=E004"},          // SET, PHA
		{"F4 4C 05 E0 EA 09 88", "10:05", 3, "A=FF P=N PC=E007"},      // SET, JMP
		{"F4 20 05 E0 EA 09 88", "10:05", 3, "A=FF S=FC P=N PC=E007"}, // SET, JSR
		{"F4 AA 09 88", "10:05", 3, "A=FF X=77 P=N PC=E004"},          // SET, TAX
		{"F4 A9 80 09 01", "10:05", 3, "A=81 P=N PC=E005"},            // SET, LDA
		{"F4 22 09 88", "10:05", 3, "A=98 X=77 P=N PC=E004"},          // SET, SAX
	} {
		b := laid(t, s, c.code, c.memory, 1000)
		core := isa.New(s, b)
		for range c.n {
			core.Step()
		}
		if got, want := core.State(), with(t, s, c.want); got != want {
			t.Errorf("%s: %v, not %v", c.code, got, want)
		}
	}
}
