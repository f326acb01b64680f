package modes_test

import (
	"fmt"
	"reflect"
	"testing"

	"gannet/api"
	"gannet/modes"
	"gannet/opcode"
)

// behind is how many bytes each mode has behind the first one.
var behind = [20]int{0, 1, 1, 1, 1, 2, 2, 2, 1, 1, 1, 1, 2, 2, 2, 3, 3, 2, 2, 6}

// edges is bytes at which something may go wrong.
var edges = []byte{0, 1, 2, 0x7F, 0x80, 0x81, 0xFE, 0xFF}

// each calls f with every mode, such as there are none, too, and with bytes behind of all numbers from 0 to 7.
func each(f func(mode uint8, l []byte)) {
	for mode := range 256 {
		for size := range 8 {
			for _, first := range edges {
				for _, step := range []byte{0, 1, 0x55, 0xFF} {
					l := make([]byte, size, size+3)
					for i := range l {
						l[i] = first + byte(i)*step
					}
					f(uint8(mode), l)
				}
			}
		}
	}
}

// whole tells whether there is such a mode, and l has as many bytes as it has behind.
func whole(mode uint8, l []byte) bool { return int(mode) < len(behind) && len(l) == behind[mode] }

// zero is a place of the zero page, reckoned from any number.
func zero(n int) uint16 { return uint16(0x2000 + n%256) }

// word is the word of two bytes, as a number.
func word(lo, hi byte) int { return int(lo) + 256*int(hi) }

// pointer is where both bytes of a word are that one goes through, by the chapter's words.
func pointer(mode uint8, l []byte, x byte) (uint16, uint16, bool) {
	if whole(mode, l) {
		switch mode {
		case opcode.Ind, opcode.IndY:
			return zero(int(l[0])), zero(int(l[0]) + 1), true
		case opcode.IndX:
			return zero(int(l[0]) + int(x)), zero(int(l[0]) + int(x) + 1), true
		case opcode.AbsInd:
			return uint16(word(l[0], l[1])), uint16(word(l[0], l[1]) + 1), true
		case opcode.AbsIndX:
			return uint16(word(l[0], l[1]) + int(x)), uint16(word(l[0], l[1]) + int(x) + 1), true
		}
	}
	return 0, 0, false
}

// address is the address that is meant, by the chapter's words.
func address(mode uint8, l []byte, x, y byte, to uint16) (uint16, bool) {
	if whole(mode, l) {
		switch mode {
		case opcode.Zp, opcode.ZpRel:
			return zero(int(l[0])), true
		case opcode.ZpX:
			return zero(int(l[0]) + int(x)), true
		case opcode.ZpY:
			return zero(int(l[0]) + int(y)), true
		case opcode.ImmZp:
			return zero(int(l[1])), true
		case opcode.ImmZpX:
			return zero(int(l[1]) + int(x)), true
		case opcode.Abs:
			return uint16(word(l[0], l[1])), true
		case opcode.AbsX:
			return uint16(word(l[0], l[1]) + int(x)), true
		case opcode.AbsY:
			return uint16(word(l[0], l[1]) + int(y)), true
		case opcode.ImmAbs:
			return uint16(word(l[1], l[2])), true
		case opcode.ImmAbsX:
			return uint16(word(l[1], l[2]) + int(x)), true
		case opcode.Ind, opcode.IndX, opcode.AbsInd, opcode.AbsIndX:
			return to, true
		case opcode.IndY:
			return uint16(int(to) + int(y)), true
		}
	}
	return 0, false
}

// P24.1: how many bytes each mode has behind; -1 of such as there are none.
func TestBehind(t *testing.T) {
	for mode := range 256 {
		want := -1
		if mode < 20 {
			want = behind[mode]
		}
		if got := modes.Behind(uint8(mode)); got != want {
			t.Errorf("Behind(%d): %d, not %d", mode, got, want)
		}
	}
	for b := range 256 {
		if op := opcode.Of(byte(b)); modes.Behind(op.Mode) != op.Size-1 {
			t.Errorf("Behind(%d): %d; %#x has %d", op.Mode, modes.Behind(op.Mode), b, op.Size)
		}
	}
}

// P24.2: where a word is, of each mode, of such as there are none, with fewer and with more bytes than the mode has.
func TestPointer(t *testing.T) {
	each(func(mode uint8, l []byte) {
		for _, x := range edges {
			lo, hi, ok := pointer(mode, l, x)
			if a, b, yes := modes.Pointer(mode, l, x); a != lo || b != hi || yes != ok {
				t.Errorf("Pointer(%d, %#x, %#x): %#x, %#x, %v, not %#x, %#x, %v", mode, l, x, a, b, yes, lo, hi, ok)
			}
		}
	})
}

// P24.2: answers that are written here: around the end of the zero page, and of all addresses.
func TestPointerByHand(t *testing.T) {
	for _, x := range []struct {
		mode   uint8
		l      []byte
		x      byte
		lo, hi uint16
	}{
		{opcode.Ind, []byte{0x10}, 5, 0x2010, 0x2011}, {opcode.Ind, []byte{0xFF}, 5, 0x20FF, 0x2000}, {opcode.IndY, []byte{0xFF}, 1, 0x20FF, 0x2000}, {opcode.IndY, []byte{0}, 255, 0x2000, 0x2001},
		{opcode.IndX, []byte{0x10}, 5, 0x2015, 0x2016}, {opcode.IndX, []byte{0xFF}, 1, 0x2000, 0x2001}, {opcode.IndX, []byte{0xF0}, 0x0F, 0x20FF, 0x2000}, {opcode.IndX, []byte{0xFF}, 0xFF, 0x20FE, 0x20FF},
		{opcode.AbsInd, []byte{0x34, 0x12}, 5, 0x1234, 0x1235}, {opcode.AbsInd, []byte{0xFF, 0x12}, 5, 0x12FF, 0x1300}, {opcode.AbsInd, []byte{0xFF, 0xFF}, 5, 0xFFFF, 0x0000},
		{opcode.AbsIndX, []byte{0x34, 0x12}, 5, 0x1239, 0x123A}, {opcode.AbsIndX, []byte{0xFF, 0xFF}, 1, 0x0000, 0x0001}, {opcode.AbsIndX, []byte{0x00, 0xFF}, 0xFF, 0xFFFF, 0x0000},
	} {
		if lo, hi, ok := modes.Pointer(x.mode, x.l, x.x); lo != x.lo || hi != x.hi || !ok {
			t.Errorf("Pointer(%d, %#x, %#x): %#x, %#x, %v", x.mode, x.l, x.x, lo, hi, ok)
		}
	}
}

// P24.3: what is meant, of each mode, of such as there are none, with fewer and with more bytes than the mode has.
func TestAddress(t *testing.T) {
	each(func(mode uint8, l []byte) {
		for _, r := range [][2]byte{{0, 0}, {0, 255}, {255, 0}, {1, 2}, {0x80, 0x7F}, {255, 255}} {
			for _, to := range []uint16{0, 1, 0x1234, 0xFF00, 0xFFFF} {
				want, ok := address(mode, l, r[0], r[1], to)
				if got, yes := modes.Address(mode, l, r[0], r[1], to); got != want || yes != ok {
					t.Errorf("Address(%d, %#x, %#x, %#x): %#x, %v, not %#x, %v", mode, l, r, to, got, yes, want, ok)
				}
			}
		}
	})
}

// P24.3: answers that are written here, with X 2 and Y 3, and a word 0xFFFE.
func TestAddressByHand(t *testing.T) {
	for _, x := range []struct {
		mode uint8
		l    []byte
		want uint16
	}{
		{opcode.Zp, []byte{0xFF}, 0x20FF}, {opcode.ZpX, []byte{0xFF}, 0x2001}, {opcode.ZpY, []byte{0xFF}, 0x2002}, {opcode.ZpX, []byte{0x10}, 0x2012}, {opcode.ZpY, []byte{0x10}, 0x2013},
		{opcode.ZpRel, []byte{0x12, 0x34}, 0x2012}, {opcode.ImmZp, []byte{0x12, 0x34}, 0x2034}, {opcode.ImmZpX, []byte{0x12, 0xFE}, 0x2000}, {opcode.ImmZpX, []byte{0xFE, 0x12}, 0x2014},
		{opcode.Abs, []byte{0x34, 0x12}, 0x1234}, {opcode.AbsX, []byte{0x34, 0x12}, 0x1236}, {opcode.AbsY, []byte{0x34, 0x12}, 0x1237}, {opcode.AbsX, []byte{0xFE, 0xFF}, 0x0000}, {opcode.AbsY, []byte{0xFE, 0xFF}, 0x0001},
		{opcode.ImmAbs, []byte{0x99, 0x34, 0x12}, 0x1234}, {opcode.ImmAbsX, []byte{0x99, 0xFF, 0x12}, 0x1301}, {opcode.ImmAbsX, []byte{0x99, 0xFF, 0xFF}, 0x0001},
		{opcode.Ind, []byte{0x12}, 0xFFFE}, {opcode.IndX, []byte{0x12}, 0xFFFE}, {opcode.IndY, []byte{0x12}, 0x0001}, {opcode.AbsInd, []byte{0x12, 0x34}, 0xFFFE}, {opcode.AbsIndX, []byte{0x12, 0x34}, 0xFFFE},
	} {
		if got, ok := modes.Address(x.mode, x.l, 2, 3, 0xFFFE); got != x.want || !ok {
			t.Errorf("Address(%d, %#x): %#x, %v, not %#x", x.mode, x.l, got, ok, x.want)
		}
	}
}

// P24.2 to P24.4, P2: modes of which nothing is found, and modes of which no bytes are handed in.
func TestNothingFound(t *testing.T) {
	long := []byte{1, 2, 3, 4, 5, 6}
	for mode := range 256 {
		for _, l := range [][]byte{nil, {}, long, append(long, 7)} {
			lo, hi, one := modes.Pointer(uint8(mode), l, 9)
			at, two := modes.Address(uint8(mode), l, 9, 9, 9)
			d, three := modes.Distance(uint8(mode), l)
			if lo != 0 || hi != 0 || one || at != 0 || two || d != 0 || three {
				t.Errorf("%d, %#x: %#x, %#x, %v; %#x, %v; %#x, %v", mode, l, lo, hi, one, at, two, d, three)
			}
		}
	}
	for _, x := range []struct {
		mode uint8
		l    []byte
	}{{opcode.Implied, nil}, {opcode.Imm, long[:1]}, {opcode.Rel, long[:1]}, {opcode.Block, long}} {
		if at, ok := modes.Address(x.mode, x.l, 9, 9, 9); at != 0 || ok {
			t.Errorf("Address(%d): %#x, %v", x.mode, at, ok)
		}
	}
}

// P24.4: the distance of each mode, with fewer and with more bytes than the mode has.
func TestDistance(t *testing.T) {
	each(func(mode uint8, l []byte) {
		want, ok := byte(0), false
		if mode == opcode.Rel && len(l) == 1 {
			want, ok = l[0], true
		}
		if mode == opcode.ZpRel && len(l) == 2 {
			want, ok = l[1], true
		}
		if got, yes := modes.Distance(mode, l); got != want || yes != ok {
			t.Errorf("Distance(%d, %#x): %#x, %v, not %#x, %v", mode, l, got, yes, want, ok)
		}
	})
}

// P24.4: where a branch goes, at both ends of all addresses.
func TestTarget(t *testing.T) {
	for _, x := range []struct {
		behind uint16
		d      byte
		want   uint16
	}{
		{0, 0, 0}, {0, 127, 127}, {0, 128, 0xFF80}, {0, 255, 0xFFFF}, {0xFFFF, 0, 0xFFFF}, {0xFFFF, 1, 0}, {0xFFFF, 127, 126}, {0xFFFF, 128, 0xFF7F}, {0xFFFF, 255, 0xFFFE},
		{0x1000, 127, 0x107F}, {0x1000, 128, 0x0F80}, {0x1000, 255, 0x0FFF}, {0x10FF, 1, 0x1100}, {127, 128, 0xFFFF}, {128, 128, 0}, {0xFF80, 127, 0xFFFF}, {0xFF81, 127, 0},
	} {
		if got := modes.Target(x.behind, x.d); got != x.want {
			t.Errorf("Target(%#x, %d): %#x, not %#x", x.behind, x.d, got, x.want)
		}
	}
	for b := 0; b < 65536; b += 251 {
		for d := -128; d < 128; d++ {
			want := uint16((b + d + 65536) % 65536)
			if got := modes.Target(uint16(b), byte((d+256)%256)); got != want {
				t.Errorf("Target(%#x, %d): %#x, not %#x", b, d, got, want)
			}
		}
	}
}

// P24.4, P24.6: all ends that a branch may have, and all that it can't reach, around the end of all addresses, too.
func TestReach(t *testing.T) {
	for _, from := range []int{0, 1, 127, 128, 129, 0x1000, 0x8000, 0xFF7F, 0xFF80, 0xFF81, 0xFFFE, 0xFFFF} {
		for far := -32768; far < 32768; far++ {
			to := uint16((from + far + 65536) % 65536)
			want, errno := byte(0), api.Errno(api.ErrRange)
			if far >= -128 && far <= 127 {
				want, errno = byte((far+256)%256), api.OK
			}
			if got, e := modes.Reach(uint16(from), to); got != want || e != errno {
				t.Errorf("Reach(%#x, %#x): %#x, %d, not %#x, %d", from, to, got, e, want, errno)
			}
		}
	}
}

// P24.4, P2: answers that are written here: the first ones too far on both sides.
func TestReachByHand(t *testing.T) {
	for _, x := range []struct {
		behind, to uint16
		want       byte
		e          api.Errno
	}{
		{0x1000, 0x1000, 0, api.OK}, {0x1000, 0x107F, 127, api.OK}, {0x1000, 0x1080, 0, api.ErrRange}, {0x1000, 0x0F80, 128, api.OK}, {0x1000, 0x0F7F, 0, api.ErrRange}, {0x1000, 0x0FFF, 255, api.OK},
		{0, 0xFFFF, 255, api.OK}, {0, 0xFF80, 128, api.OK}, {0, 0xFF7F, 0, api.ErrRange}, {0xFFFF, 0, 1, api.OK}, {0xFFFF, 126, 127, api.OK}, {0xFFFF, 127, 0, api.ErrRange}, {0x1000, 0x9000, 0, api.ErrRange},
	} {
		if got, e := modes.Reach(x.behind, x.to); got != x.want || e != x.e {
			t.Errorf("Reach(%#x, %#x): %#x, %d", x.behind, x.to, got, e)
		}
	}
}

// P24.6: a branch is found again by Target and Reach.
func TestFoundAgain(t *testing.T) {
	for from := 0; from < 65536; from += 13 {
		for d := range 256 {
			to := modes.Target(uint16(from), byte(d))
			if got, e := modes.Reach(uint16(from), to); got != byte(d) || e != api.OK {
				t.Errorf("%#x, %d: %#x, %#x, %d", from, d, to, got, e)
			}
		}
	}
}

// P24.5: instructions of each mode, letter by letter.
func TestText(t *testing.T) {
	for _, x := range []struct {
		code []byte
		at   uint16
		want string
	}{
		{nil, 0, ""}, {[]byte{}, 0x1234, ""},
		{[]byte{0xEA}, 0, "NOP"}, {[]byte{0x60}, 0xFFFF, "RTS"}, {[]byte{0x0A}, 0, "ASL"}, {[]byte{0x1A}, 0, "INC"}, {[]byte{0xF4}, 0, "SET"},
		{[]byte{0xA9, 0x05}, 0, "LDA #$05"}, {[]byte{0x00, 0xAB}, 0, "BRK #$AB"}, {[]byte{0x53, 0xFF}, 0, "TAM #$FF"}, {[]byte{0x03, 0x00}, 0, "ST0 #$00"}, {[]byte{0x89, 0x80}, 0, "BIT #$80"},
		{[]byte{0xA5, 0x0F}, 0, "LDA $0F"}, {[]byte{0x77, 0xFF}, 0, "RMB7 $FF"}, {[]byte{0x87, 0x00}, 0, "SMB0 $00"}, {[]byte{0xB5, 0x1C}, 0, "LDA $1C,X"}, {[]byte{0x96, 0xC1}, 0, "STX $C1,Y"},
		{[]byte{0xAD, 0x34, 0x12}, 0, "LDA $1234"}, {[]byte{0x20, 0x0A, 0x00}, 0, "JSR $000A"}, {[]byte{0xBD, 0xCD, 0xAB}, 0, "LDA $ABCD,X"}, {[]byte{0xBE, 0x01, 0xF0}, 0, "LDX $F001,Y"},
		{[]byte{0xB2, 0x20}, 0, "LDA ($20)"}, {[]byte{0xA1, 0x12}, 0, "LDA ($12,X)"}, {[]byte{0x91, 0xFE}, 0, "STA ($FE),Y"}, {[]byte{0x6C, 0x34, 0x12}, 0, "JMP ($1234)"}, {[]byte{0x7C, 0x03, 0xE0}, 0, "JMP ($E003,X)"},
		{[]byte{0x83, 0x12, 0x34}, 0, "TST #$12,$34"}, {[]byte{0xA3, 0x12, 0x34}, 0, "TST #$12,$34,X"}, {[]byte{0x93, 0x12, 0x56, 0x34}, 0, "TST #$12,$3456"}, {[]byte{0xB3, 0x12, 0x56, 0x34}, 0, "TST #$12,$3456,X"},
		{[]byte{0x73, 0x34, 0x12, 0x78, 0x56, 0xBC, 0x9A}, 0, "TII $1234,$5678,$9ABC"}, {[]byte{0xF3, 0, 0, 1, 0, 0, 1}, 0, "TAI $0000,$0001,$0100"},
	} {
		if got := modes.Text(x.code, x.at); got != x.want {
			t.Errorf("Text(%#x, %#x): %q, not %q", x.code, x.at, got, x.want)
		}
	}
}

// P24.5: where branches go: ahead, behind, and around the end of all addresses.
func TestTextBranches(t *testing.T) {
	for _, x := range []struct {
		code []byte
		at   uint16
		want string
	}{
		{[]byte{0xD0, 0x00}, 0x1000, "BNE $1002"}, {[]byte{0xD0, 0x7F}, 0x1000, "BNE $1081"}, {[]byte{0xD0, 0x80}, 0x1000, "BNE $0F82"}, {[]byte{0x80, 0xFF}, 0x1000, "BRA $1001"}, {[]byte{0x44, 0x03}, 0x0000, "BSR $0005"},
		{[]byte{0x44, 0xFD}, 0x0000, "BSR $FFFF"}, {[]byte{0x90, 0x00}, 0xFFFE, "BCC $0000"}, {[]byte{0x90, 0x7F}, 0xFFFF, "BCC $0080"}, {[]byte{0xF0, 0x80}, 0xFFFF, "BEQ $FF81"},
		{[]byte{0x0F, 0x12, 0x00}, 0x1000, "BBR0 $12,$1003"}, {[]byte{0xFF, 0x00, 0x7F}, 0x1000, "BBS7 $00,$1082"}, {[]byte{0x8F, 0xFF, 0x80}, 0x1000, "BBS0 $FF,$0F83"}, {[]byte{0x7F, 0x0A, 0x01}, 0xFFFC, "BBR7 $0A,$0000"},
		{[]byte{0x0F, 0x80, 0xFC}, 0x0000, "BBR0 $80,$FFFF"},
	} {
		if got := modes.Text(x.code, x.at); got != x.want {
			t.Errorf("Text(%#x, %#x): %q, not %q", x.code, x.at, got, x.want)
		}
	}
}

// shape is how what stands behind a name is written, with %[1]s, %[2]s.. for the bytes behind in two digits, and $@ for where a branch goes.
var shape = [20]string{
	opcode.Imm: " #$%[1]s", opcode.Zp: " $%[1]s", opcode.ZpX: " $%[1]s,X", opcode.ZpY: " $%[1]s,Y", opcode.Abs: " $%[2]s%[1]s", opcode.AbsX: " $%[2]s%[1]s,X", opcode.AbsY: " $%[2]s%[1]s,Y",
	opcode.Ind: " ($%[1]s)", opcode.IndX: " ($%[1]s,X)", opcode.IndY: " ($%[1]s),Y", opcode.ImmZp: " #$%[1]s,$%[2]s", opcode.ImmZpX: " #$%[1]s,$%[2]s,X", opcode.ImmAbs: " #$%[1]s,$%[3]s%[2]s",
	opcode.ImmAbsX: " #$%[1]s,$%[3]s%[2]s,X", opcode.AbsInd: " ($%[2]s%[1]s)", opcode.AbsIndX: " ($%[2]s%[1]s,X)", opcode.Block: " $%[2]s%[1]s,$%[4]s%[3]s,$%[6]s%[5]s",
}

// text is how the bytes of a whole instruction are written, by the shapes.
func text(code []byte, at int) string {
	op := opcode.Of(code[0])
	goes := fmt.Sprintf("$%04X", (at+op.Size+int(int8(code[op.Size-1]))+65536)%65536)
	switch op.Mode {
	case opcode.Implied:
		return op.Name
	case opcode.Rel:
		return op.Name + " " + goes
	case opcode.ZpRel:
		return fmt.Sprintf("%s $%02X,%s", op.Name, code[1], goes)
	}
	digits := make([]any, op.Size-1)
	for i := range digits {
		digits[i] = fmt.Sprintf("%02X", code[1+i])
	}
	// A place of the format that isn't asked for would be told as one too many: it is asked for with no digits.
	all := shape[op.Mode]
	for i := range digits {
		all += fmt.Sprintf("%%.0[%d]s", i+1)
	}
	return op.Name + fmt.Sprintf(all, digits...)
}

// P24.5: all 256 bytes, whole, with more behind, which isn't looked at, and with one byte less than they need.
func TestTextEach(t *testing.T) {
	for n := range 256 {
		b := byte(n)
		lone := fmt.Sprintf(".byte $%02X", n)
		code := []byte{b, 0x12, 0x8F, 0x56, 0xA0, 0x0B, 0xFF, 0xEA}
		size := opcode.Of(b).Size
		want := lone
		if opcode.Known(b) {
			want = text(code, 0x8000)
		}
		for _, l := range [][]byte{code, code[:size]} {
			if got := modes.Text(l, 0x8000); got != want {
				t.Errorf("Text(%#x): %q, not %q", l, got, want)
			}
		}
		for less := 1; less < size; less++ {
			if got := modes.Text(code[:less], 0x8000); got != lone {
				t.Errorf("Text(%#x): %q, not %q", code[:less], got, lone)
			}
		}
	}
}

// P24.5: rows of instructions, of bytes that do nothing, with a last one that isn't whole, and around the end of all addresses.
func TestListing(t *testing.T) {
	for _, x := range []struct {
		code []byte
		at   uint16
		want []string
	}{
		{nil, 0x1000, nil}, {[]byte{}, 0, nil},
		{[]byte{0xEA}, 0, []string{"0000: NOP"}},
		{[]byte{0xA9, 0x05, 0x8D, 0x02, 0x00, 0xD0, 0xF9, 0x60}, 0xE000, []string{"E000: LDA #$05", "E002: STA $0002", "E005: BNE $E000", "E007: RTS"}},
		{[]byte{0x0B, 0xEA, 0x63, 0xE2, 0xA5, 0x01}, 0x00FE, []string{"00FE: .byte $0B", "00FF: NOP", "0100: .byte $63", "0101: .byte $E2", "0102: LDA $01"}},
		{[]byte{0xEA, 0xAD, 0xEA}, 0x1FFF, []string{"1FFF: NOP", "2000: .byte $AD", "2001: NOP"}},
		{[]byte{0x73, 0xA9, 0x05, 0x4C, 0x60}, 0x4000, []string{"4000: .byte $73", "4001: LDA #$05", "4003: .byte $4C", "4004: RTS"}},
		{[]byte{0x20, 0x34, 0x12, 0x80, 0x01, 0x1A, 0xA9}, 0xFFFC, []string{"FFFC: JSR $1234", "FFFF: BRA $0002", "0001: INC", "0002: .byte $A9"}},
		{[]byte{0xAD, 0x01, 0x02, 0x0F, 0x03, 0xFD, 0xEA}, 0xFFFE, []string{"FFFE: LDA $0201", "0001: BBR0 $03,$0001", "0004: NOP"}},
	} {
		if got := modes.Listing(x.code, x.at); !(len(got) == 0 && len(x.want) == 0 || reflect.DeepEqual(got, x.want)) {
			t.Errorf("Listing(%#x, %#x): %q, not %q", x.code, x.at, got, x.want)
		}
	}
}

// P24.5: more bytes than there are addresses.
func TestListingLong(t *testing.T) {
	code := make([]byte, 65536+4)
	for i := range code {
		code[i] = 0xEA
	}
	got := modes.Listing(code, 0x0003)
	if len(got) != len(code) || got[0] != "0003: NOP" || got[65532] != "FFFF: NOP" || got[65533] != "0000: NOP" || got[65539] != "0006: NOP" {
		t.Errorf("%d lines", len(got))
	}
}

// P3: what is handed in stays as it is, spare room, too, and spare room isn't read; a listing is the caller's.
func TestStays(t *testing.T) {
	room := []byte{0xA9, 0x05, 0xAD, 0x01, 0x02, 0xEA}
	lines := modes.Listing(room[:4], 0)
	if want := []string{"0000: LDA #$05", "0002: .byte $AD", "0003: .byte $01"}; !reflect.DeepEqual(lines, want) {
		t.Errorf("%q", lines)
	}
	lines[0] = "?"
	if got := modes.Listing(room[:4], 0); got[0] != "0000: LDA #$05" {
		t.Errorf("%q", got)
	}
	if got := modes.Text(room[2:4], 0); got != ".byte $AD" {
		t.Errorf("%q", got)
	}
	each(func(mode uint8, l []byte) {
		full := l[:cap(l)]
		before := append([]byte(nil), full...)
		modes.Pointer(mode, l, 255)
		modes.Address(mode, l, 255, 255, 255)
		modes.Distance(mode, l)
		if !reflect.DeepEqual(full, before) {
			t.Errorf("%d: %#x, not %#x", mode, full, before)
		}
	})
	if !reflect.DeepEqual(room, []byte{0xA9, 0x05, 0xAD, 0x01, 0x02, 0xEA}) {
		t.Errorf("%#x", room)
	}
}

// The examples of the chapter.
func TestExamples(t *testing.T) {
	for _, x := range []struct {
		code []byte
		at   uint16
		want string
	}{{[]byte{0xB1, 0x20}, 0, "LDA ($20),Y"}, {[]byte{0xD0, 0xFE}, 0x1000, "BNE $1000"}, {[]byte{0x0B}, 0, ".byte $0B"}} {
		if got := modes.Text(x.code, x.at); got != x.want {
			t.Errorf("Text(%#x, %#x): %q, not %q", x.code, x.at, got, x.want)
		}
	}
}
