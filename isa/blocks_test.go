package isa_test

import (
	"cmp"
	"slices"
	"strings"
	"testing"

	"gannet/api"
	"gannet/isa"
	"gannet/moves"
)

// block is a block's accesses, of one at 0xE000, S at 0xFF, A 1, X 2 and Y 3: of each byte where it comes from, where it goes, and the byte, in one word.
func block(code string, ways ...string) string {
	l := strings.Fields(code)
	out := "F0:" + l[0] + " P1F01FF:03 P1F01FE:01 P1F01FD:02 O1:" + l[1] + " O2:" + l[2] + " O3:" + l[3] + " O4:" + l[4] + " O5:" + l[5] + " O6:" + l[6] + " D7:EA"
	for _, way := range ways {
		x := strings.Split(way, ">")
		out += " D7:EA L" + x[0] + ":" + x[2] + " D7:EA D7:EA S" + x[1] + ":" + x[2] + " D7:EA"
	}
	return out + " D7:EA U1F01FD:02 U1F01FE:01 U1F01FF:03 D7:EA D7:EA"
}

// blocks does blocks of which registers are as ahead behind each; P, too, but that T is clear.
func blocks(t *testing.T, all []step) {
	t.Helper()
	for _, x := range all {
		x.ahead += " A=01 X=02 Y=03"
		x.behind += " PC=E007"
		words := append(strings.Fields(x.ram), "1FD:02,01,03")
		slices.SortFunc(words, func(a, b string) int {
			// A place that has more digits is further behind.
			return cmp.Or(cmp.Compare(strings.Index(a, ":"), strings.Index(b, ":")), strings.Compare(a, b))
		})
		x.ram = strings.Join(words, " ")
		done(t, x)
	}
}

// P28.7: each kind, of few bytes.
func TestBlocks(t *testing.T) {
	blocks(t, []step{
		{"73 10 20 20 20 01 00", "", "10:AA,BB", block("73 10 20 20 20 01 00", "1F0010>1F0020>AA"), "", "10:AA,BB 20:AA"},
		{"73 10 20 20 20 02 00", "P=NVTBDIZC", "10:AA,BB", block("73 10 20 20 20 02 00", "1F0010>1F0020>AA", "1F0011>1F0021>BB"), "", "10:AA,BB 20:AA,BB"},
		{"C3 11 20 21 20 02 00", "P=C", "10:AA,BB", block("C3 11 20 21 20 02 00", "1F0011>1F0021>BB", "1F0010>1F0020>AA"), "", "10:AA,BB 20:AA,BB"},
		{"D3 10 20 20 20 02 00", "", "10:AA,BB", block("D3 10 20 20 20 02 00", "1F0010>1F0020>AA", "1F0011>1F0020>BB"), "", "10:AA,BB 20:BB"},
		{"E3 10 20 20 20 03 00", "", "10:AA,BB,CC", block("E3 10 20 20 20 03 00", "1F0010>1F0020>AA", "1F0011>1F0021>BB", "1F0012>1F0020>CC"), "", "10:AA,BB,CC 20:CC,BB"},
		{"F3 10 20 20 20 03 00", "", "10:AA,BB", block("F3 10 20 20 20 03 00", "1F0010>1F0020>AA", "1F0011>1F0021>BB", "1F0010>1F0022>AA"), "", "10:AA,BB 20:AA,BB,AA"},
		{"73 00 40 20 20 02 00", "", "", block("73 00 40 20 20 02 00", "2000>1F0020>10", "2001>1F0021>11"), "", "20:10,11"},
		{"73 10 20 00 40 01 00", "", "10:AA", block("73 10 20 00 40 01 00", "1F0010>2000>AA"), "", "10:AA"},
	})
}

// P28.7: blocks that overlap, ahead and behind: a byte is written ahead of its being moved, or not.
func TestBlocksOverlapping(t *testing.T) {
	blocks(t, []step{
		{"73 10 20 11 20 03 00", "", "10:AA,BB,CC", block("73 10 20 11 20 03 00", "1F0010>1F0011>AA", "1F0011>1F0012>AA", "1F0012>1F0013>AA"), "", "10:AA,AA,AA,AA"},
		{"73 11 20 10 20 02 00", "", "10:AA,BB,CC", block("73 11 20 10 20 02 00", "1F0011>1F0010>BB", "1F0012>1F0011>CC"), "", "10:BB,CC,CC"},
		{"C3 12 20 13 20 03 00", "", "10:AA,BB,CC", block("C3 12 20 13 20 03 00", "1F0012>1F0013>CC", "1F0011>1F0012>BB", "1F0010>1F0011>AA"), "", "10:AA,AA,BB,CC"},
		{"C3 12 20 11 20 02 00", "", "10:AA,BB,CC", block("C3 12 20 11 20 02 00", "1F0012>1F0011>CC", "1F0011>1F0010>CC"), "", "10:CC,CC,CC"},
		{"F3 10 20 11 20 03 00", "", "10:AA,BB", block("F3 10 20 11 20 03 00", "1F0010>1F0011>AA", "1F0011>1F0012>AA", "1F0010>1F0013>AA"), "", "10:AA,AA,AA,AA"},
	})
}

// P28.7: addresses go round at both ends, and through all pages; devices are read and written.
func TestBlocksElsewhere(t *testing.T) {
	blocks(t, []step{
		{"73 FF 3F 20 20 02 00", "", "1FFF:AA", block("73 FF 3F 20 20 02 00", "1F1FFF>1F0020>AA", "2000>1F0021>10"), "", "20:AA,10 1FFF:AA"},
		{"C3 00 40 21 20 02 00", "", "1FFF:AA", block("C3 00 40 21 20 02 00", "2000>1F0021>10", "1F1FFF>1F0020>AA"), "", "20:AA,10 1FFF:AA"},
		{"73 FF FF 20 20 02 00", "M0=01", "", block("73 FF FF 20 20 02 00", "1FFF>1F0020>E0", "2000>1F0021>10"), "", "20:E0,10"},
		{"C3 00 00 21 20 02 00", "M0=01", "", block("C3 00 00 21 20 02 00", "2000>1F0021>10", "1FFF>1F0020>E0"), "", "20:E0,10"},
		{"F3 02 00 20 20 03 00", "", "", block("F3 02 00 20 20 03 00", "1FE002>1F0020>91", "1FE003>1F0021>12", "1FE002>1F0022>53"), "", "20:91,12,53"},
		{"E3 10 20 02 00 03 00", "", "10:AA,BB,CC", block("E3 10 20 02 00 03 00", "1F0010>1FE002>AA", "1F0011>1FE003>BB", "1F0012>1FE002>CC"), "", "10:AA,BB,CC"},
		{"D3 10 20 04 04 02 00", "", "10:AA,BB", block("D3 10 20 04 04 02 00", "1F0010>1FE404>AA", "1F0011>1FE404>BB"), "", "10:AA,BB"},
	})
}

// P28.7: what is moved to a device's registers is there, and each access of two devices is longer.
func TestBlocksDevices(t *testing.T) {
	b := laid(t, base(), "73 10 20 00 0C 02 00 F3 02 00 20 20 02 00", "10:85,01", 1000)
	c := isa.New(base(), b)
	if c.Step(); b.Status().Reload != 5 || !b.Status().On || b.Now() != 29*12 {
		t.Errorf("%v, at %d", b.Status(), b.Now())
	}
	if c.Step(); b.Status().Vdc != 2 || b.Now() != (58+2)*12 {
		t.Errorf("%v, at %d", b.Status(), b.Now())
	}
}

// P28.7, P28.8: registers are pulled from where they were pushed, which the block may have written; the stack goes round.
func TestBlocksStack(t *testing.T) {
	all(t, []step{
		{"73 10 20 FD 21 03 00", "A=01 X=02 Y=03 P=Z", "10:AA,BB,CC",
			strings.NewReplacer("U1F01FD:02", "U1F01FD:AA", "U1F01FE:01", "U1F01FE:BB", "U1F01FF:03", "U1F01FF:CC").
				Replace(block("73 10 20 FD 21 03 00", "1F0010>1F01FD>AA", "1F0011>1F01FE>BB", "1F0012>1F01FF>CC")),
			"A=BB X=AA Y=CC PC=E007", "10:AA,BB,CC 1FD:AA,BB,CC"},
		{"73 FD 21 10 20 03 00", "A=01 X=02 Y=03", "",
			block("73 FD 21 10 20 03 00", "1F01FD>1F0010>02", "1F01FE>1F0011>01", "1F01FF>1F0012>03"),
			"PC=E007", "10:02,01,03 1FD:02,01,03"},
		{"73 10 20 20 20 01 00", "A=81 X=00 Y=83 S=01", "10:AA",
			"F0:73 P1F0101:83 P1F0100:81 P1F01FF:00 O1:10 O2:20 O3:20 O4:20 O5:01 O6:00 D7:EA D7:EA L1F0010:AA D7:EA D7:EA S1F0020:AA D7:EA D7:EA U1F01FF:00 U1F0100:81 U1F0101:83 D7:EA D7:EA",
			"PC=E007", "10:AA 20:AA 100:81,83"},
		// The stack isn't work memory: what is there is pulled.
		{"73 10 60 20 60 01 00", "A=81 X=82 Y=83 S=04 M1=01", "",
			"F0:73 P2104:83 P2103:81 P2102:82 O1:10 O2:60 O3:20 O4:60 O5:01 O6:00 D7:EA D7:EA L4010:30 D7:EA D7:EA S4020:30 D7:EA D7:EA U2102:12 U2103:13 U2104:14 D7:EA D7:EA",
			"A=13 X=12 Y=14 PC=E007", ""},
	})
}

// P28.7: a block's bytes behind lie across the end of all addresses.
func TestBlocksAround(t *testing.T) {
	done(t, step{"73 10 20 20 20 01 00", "A=01 X=02 Y=03 PC=FFFD M0=01", "10:AA",
		"F1FFD:73 P1F01FF:03 P1F01FE:01 P1F01FD:02 O1FFE:10 O1FFF:20 O2000:20 O2001:20 O2002:01 O2003:00 D2004:14 D2004:14 L1F0010:AA D2004:14 D2004:14 S1F0020:AA D2004:14 D2004:14 U1F01FD:02 U1F01FE:01 U1F01FF:03 D2004:14 D2004:14",
		"PC=0004", "10:AA 20:AA 1FD:02,01,03"})
}

// P28.7: of each kind bytes go the ways of layer 26, of many lengths, 0 among them.
func TestBlocksWays(t *testing.T) {
	for kind, code := range []string{"73", "C3", "D3", "E3", "F3"} {
		for _, length := range []int{1, 2, 3, 16, 255, 256, 257, 0} {
			s := with(t, base(), "M0=03 M4=01 M5=02")
			b := laid(t, s, code+" F8 7F 05 C0 "+digits(length%256)+" "+digits(length/256), "", 1<<20)
			c := isa.New(s, b)
			c.Step()
			l := b.Trace()
			ways := moves.All(uint8(kind), 0x7FF8, 0xC005, uint16(length))
			if len(l) != 17+6*len(ways) || b.Over() {
				t.Fatalf("%s, %d: %d accesses", code, length, len(l))
			}
			// All addresses have the stack among them: there the block writes over what was pushed.
			want, pulled := with(t, s, "PC=E007"), l[len(l)-5:]
			want.X, want.A, want.Y = pulled[0].Data, pulled[1].Data, pulled[2].Data
			if got := c.State(); got != want || length > 0 && got != with(t, s, "PC=E007") {
				t.Errorf("%s, %d: %v, not %v", code, length, got, want)
			}
			phys := func(a uint16) uint32 { return uint32(s.Mpr[a>>13])<<13 | uint32(a&0x1FFF) }
			for n, way := range ways {
				from, to := l[11+6*n+1], l[11+6*n+4]
				if from.Kind != api.Load || from.Addr != phys(way.From) || to.Kind != api.Store || to.Addr != phys(way.To) || !to.Write || to.Data != from.Data {
					t.Fatalf("%s, %d, byte %d: %v, %v", code, length, n, from, to)
				}
			}
		}
	}
}

// P28.7: a budget that ends within a block: what was done till then is as ever, and nothing comes behind.
func TestBlocksBudget(t *testing.T) {
	const code = "73 10 20 20 20 03 00"
	whole := laid(t, base(), code, "10:AA,BB,CC", 1000)
	isa.New(base(), whole).Step()
	full := whole.Trace()
	for budget := range int64(40) {
		b := laid(t, base(), code, "10:AA,BB,CC", budget)
		isa.New(base(), b).Step()
		n := min(int(budget), 35)
		if got := b.Trace(); !slices.Equal(got, full[:n]) || b.Over() != (budget < 35) || int(b.Left()) != int(budget)-n {
			t.Errorf("budget %d: %d accesses, over %v", budget, len(got), b.Over())
		}
		moved := 0
		for _, x := range full[:n] {
			if x.Kind == api.Store {
				moved++
			}
		}
		for i := range 3 {
			want := byte(0)
			if i < moved {
				want = 0xAA + byte(0x11*i)
			}
			if got := b.Peek(0x1F0020 + uint32(i)); got != want {
				t.Errorf("budget %d, byte %d: %#x, not %#x", budget, i, got, want)
			}
		}
	}
	b := laid(t, base(), "73 10 20 20 20 00 00", "", 1000)
	if isa.New(base(), b).Step(); len(b.Trace()) != 1000 || !b.Over() {
		t.Errorf("%d accesses", len(b.Trace()))
	}
}
