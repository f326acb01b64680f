package logic_test

import (
	"strings"
	"testing"

	"gannet/api"
	"gannet/logic"
)

// letters is what a chain's letters do.
var letters = map[byte]func(v, p byte) (byte, byte){
	'A': logic.Asl, 'L': logic.Lsr, 'R': logic.Rol, 'O': logic.Ror, 'I': logic.Inc, 'D': logic.Dec,
}

// rows calls f with every byte.
func rows(f func(b byte)) {
	for b := range 256 {
		f(byte(b))
	}
}

// pairs calls f with every pair of bytes.
func pairs(f func(a, b byte)) {
	rows(func(a byte) { rows(func(b byte) { f(a, b) }) })
}

// bit tells whether bit n of a byte is set.
func bit(b byte, n int) bool { return int(b)/(1<<n)%2 == 1 }

// made is the byte whose bits are so.
func made(is func(n int) bool) byte {
	out := 0
	for n := range 8 {
		if is(n) {
			out += 1 << n
		}
	}
	return byte(out)
}

// flagged is p, with flag n (its bit's number) as is tells, where it tells it.
func flagged(p byte, is map[int]bool) byte {
	return made(func(n int) bool {
		if on, told := is[n]; told {
			return on
		}
		return bit(p, n)
	})
}

// Bits of P by their numbers.
const (
	c = 0
	z = 1
	v = 6
	n = 7
)

// P22.1: bits that both have, that one has at least, that just one has; N and Z by the result, all others stay.
func TestTogether(t *testing.T) {
	for _, x := range []struct {
		name string
		do   func(a, b, p byte) (byte, byte)
		is   func(a, b bool) bool
	}{
		{"And", logic.And, func(a, b bool) bool { return a && b }},
		{"Or", logic.Or, func(a, b bool) bool { return a || b }},
		{"Eor", logic.Eor, func(a, b bool) bool { return a != b }},
	} {
		for _, p := range []byte{0, 255, 0x5A, 0xA5} {
			pairs(func(a, b byte) {
				want := made(func(k int) bool { return x.is(bit(a, k), bit(b, k)) })
				flags := flagged(p, map[int]bool{n: want >= 128, z: want == 0})
				if got, out := x.do(a, b, p); got != want || out != flags {
					t.Errorf("%s(%#x, %#x, %#x): %#x, %#x, not %#x, %#x", x.name, a, b, p, got, out, want, flags)
				}
			})
		}
	}
}

// P22.1, P22.4: which flags stay, of all states of P.
func TestOtherFlags(t *testing.T) {
	rows(func(p byte) {
		for _, x := range [][3]byte{{0, 0, 0x02}, {0x7F, 0x7F, 0}, {0xFF, 0xF0, 0x80}} {
			want := p&0x7D | x[2]
			a := x[0] & x[1]
			_, and := logic.And(x[0], x[1], p)
			_, or := logic.Or(a, 0, p)
			_, eor := logic.Eor(a^0x3C, 0x3C, p)
			_, inc := logic.Inc(a-1, p)
			_, dec := logic.Dec(a+1, p)
			if got := [5]byte{and, or, eor, inc, dec}; got != [5]byte{want, want, want, want, want} {
				t.Errorf("%#x, %#x: %#x, not %#x", p, a, got, want)
			}
		}
	})
}

// P22.2: N and V as bits 7 and 6 of what was in memory, Z by what both have in common; what bits are set, or clear; all other flags stay.
func TestMemory(t *testing.T) {
	for _, p := range []byte{0, 255, 0x5A, 0xA5} {
		pairs(func(a, m byte) {
			common := made(func(k int) bool { return bit(a, k) && bit(m, k) })
			flags := flagged(p, map[int]bool{n: bit(m, 7), v: bit(m, 6), z: common == 0})
			set := made(func(k int) bool { return bit(m, k) || bit(a, k) })
			clear := made(func(k int) bool { return bit(m, k) && !bit(a, k) })
			if got := logic.Test(a, m, p); got != flags {
				t.Errorf("Test(%#x, %#x, %#x): %#x, not %#x", a, m, p, got, flags)
			}
			if got, out := logic.Tsb(a, m, p); got != set || out != flags {
				t.Errorf("Tsb(%#x, %#x, %#x): %#x, %#x, not %#x, %#x", a, m, p, got, out, set, flags)
			}
			if got, out := logic.Trb(a, m, p); got != clear || out != flags {
				t.Errorf("Trb(%#x, %#x, %#x): %#x, %#x, not %#x, %#x", a, m, p, got, out, clear, flags)
			}
		})
	}
}

// P22.2: answers that are written here.
func TestMemoryByHand(t *testing.T) {
	for _, x := range []struct{ a, m, p, set, clear, flags byte }{
		{0, 0, 0, 0, 0, 0x02}, {0, 0xFF, 0, 0xFF, 0xFF, 0xC2}, {0xFF, 0, 0xC0, 0xFF, 0, 0x02}, {0xFF, 0xFF, 0, 0xFF, 0, 0xC0},
		{0x0F, 0x40, 0x81, 0x4F, 0x40, 0x43}, {0x0F, 0x88, 0x42, 0x8F, 0x80, 0x80}, {0x80, 0x80, 255, 0x80, 0, 0xBD}, {0x01, 0x02, 0x3D, 0x03, 0x02, 0x3F},
	} {
		flags := logic.Test(x.a, x.m, x.p)
		set, one := logic.Tsb(x.a, x.m, x.p)
		clear, two := logic.Trb(x.a, x.m, x.p)
		if set != x.set || clear != x.clear || flags != x.flags || one != x.flags || two != x.flags {
			t.Errorf("%#x, %#x, %#x: %#x, %#x; %#x, %#x, %#x", x.a, x.m, x.p, set, clear, flags, one, two)
		}
	}
}

// P22.3: all bytes, with all states of P: what comes in, what comes out, N and Z by the result, all other flags stay.
func TestTurned(t *testing.T) {
	for _, x := range []struct {
		name    string
		do      func(v, p byte) (byte, byte)
		left    bool
		through bool
	}{
		{"Asl", logic.Asl, true, false}, {"Lsr", logic.Lsr, false, false}, {"Rol", logic.Rol, true, true}, {"Ror", logic.Ror, false, true},
	} {
		pairs(func(b, p byte) {
			in := 0
			if x.through {
				in = int(p) % 2
			}
			number, out := 2*int(b)+in, b >= 128
			if !x.left {
				number, out = int(b)/2+128*in, b%2 == 1
			}
			want := byte(number % 256)
			flags := flagged(p, map[int]bool{c: out, n: want >= 128, z: want == 0})
			if got, is := x.do(b, p); got != want || is != flags {
				t.Errorf("%s(%#x, %#x): %#x, %#x, not %#x, %#x", x.name, b, p, got, is, want, flags)
			}
		})
	}
}

// P22.3: answers that are written here: Asl, Lsr, Rol, Ror.
func TestTurnedByHand(t *testing.T) {
	for _, x := range []struct {
		b, p byte
		want [4][2]byte
	}{
		{0x00, 0x00, [4][2]byte{{0x00, 0x02}, {0x00, 0x02}, {0x00, 0x02}, {0x00, 0x02}}},
		{0x00, 0x01, [4][2]byte{{0x00, 0x02}, {0x00, 0x02}, {0x01, 0x00}, {0x80, 0x80}}},
		{0x81, 0x00, [4][2]byte{{0x02, 0x01}, {0x40, 0x01}, {0x02, 0x01}, {0x40, 0x01}}},
		{0x81, 0x01, [4][2]byte{{0x02, 0x01}, {0x40, 0x01}, {0x03, 0x01}, {0xC0, 0x81}}},
		{0x80, 0x00, [4][2]byte{{0x00, 0x03}, {0x40, 0x00}, {0x00, 0x03}, {0x40, 0x00}}},
		{0x01, 0x00, [4][2]byte{{0x02, 0x00}, {0x00, 0x03}, {0x02, 0x00}, {0x00, 0x03}}},
		{0xFF, 0xFF, [4][2]byte{{0xFE, 0xFD}, {0x7F, 0x7D}, {0xFF, 0xFD}, {0xFF, 0xFD}}},
		{0x40, 0x7C, [4][2]byte{{0x80, 0xFC}, {0x20, 0x7C}, {0x80, 0xFC}, {0x20, 0x7C}}},
	} {
		var got [4][2]byte
		for i, do := range []func(v, p byte) (byte, byte){logic.Asl, logic.Lsr, logic.Rol, logic.Ror} {
			got[i][0], got[i][1] = do(x.b, x.p)
		}
		if got != x.want {
			t.Errorf("%#x, %#x: %#x, not %#x", x.b, x.p, got, x.want)
		}
	}
}

// P22.4: all bytes: one more, one less, modulo 256; N and Z by the result, all others stay.
func TestCounted(t *testing.T) {
	pairs(func(b, p byte) {
		more, less := byte((int(b)+1)%256), byte((int(b)+255)%256)
		if got, out := logic.Inc(b, p); got != more || out != flagged(p, map[int]bool{n: more >= 128, z: more == 0}) {
			t.Errorf("Inc(%#x, %#x): %#x, %#x", b, p, got, out)
		}
		if got, out := logic.Dec(b, p); got != less || out != flagged(p, map[int]bool{n: less >= 128, z: less == 0}) {
			t.Errorf("Dec(%#x, %#x): %#x, %#x", b, p, got, out)
		}
	})
	for _, x := range [][6]byte{{0xFF, 0, 0x00, 0x02, 0xFE, 0x80}, {0x00, 0, 0x01, 0x00, 0xFF, 0x80}, {0x7F, 0xFF, 0x80, 0xFD, 0x7E, 0x7D}, {0x80, 1, 0x81, 0x81, 0x7F, 0x01}, {0x01, 0, 0x02, 0x00, 0x00, 0x02}} {
		more, p := logic.Inc(x[0], x[1])
		less, q := logic.Dec(x[0], x[1])
		if got := [6]byte{x[0], x[1], more, p, less, q}; got != x {
			t.Errorf("%#x: %#x", x, got)
		}
	}
}

// P22.5: no letter: byte and flags as they were; N and Z, too.
func TestChainNone(t *testing.T) {
	pairs(func(b, p byte) {
		if got, out, f := logic.Chain("", b, p); got != b || out != p || f != (api.Fault{}) {
			t.Errorf("%#x, %#x: %#x, %#x, %v", b, p, got, out, f)
		}
	})
}

// P22.5: each letter alone is what it stands for.
func TestChainEach(t *testing.T) {
	for letter, do := range letters {
		pairs(func(b, p byte) {
			want, flags := do(b, p)
			if got, out, f := logic.Chain(string(rune(letter)), b, p); got != want || out != flags || f != (api.Fault{}) {
				t.Errorf("%c of %#x, %#x: %#x, %#x, %v, not %#x, %#x", letter, b, p, got, out, f, want, flags)
			}
		})
	}
}

// P22.5: letter by letter, each with byte and flags of the one ahead; 1000 letters are not too many.
func TestChain(t *testing.T) {
	for _, do := range []string{
		"AA", "AR", "LO", "RRRRRRRRR", "OOOOOOOOO", "IIII", "DDDD", "ALROID", "DIORLA", "IAIAIAIA", "DODODODO", "IRIRIRIRIRIR",
		strings.Repeat("I", 999), strings.Repeat("D", 1000), strings.Repeat("R", 1000), strings.Repeat("IROAL", 200), strings.Repeat("DO", 500), strings.Repeat("A", 999) + "R",
	} {
		for _, b := range []byte{0, 1, 0x5A, 0x80, 0x81, 0xFF} {
			for _, p := range []byte{0, 1, 0x3C, 0xFE, 255} {
				want, flags := b, p
				for i := range len(do) {
					want, flags = letters[do[i]](want, flags)
				}
				if got, out, f := logic.Chain(do, b, p); got != want || out != flags || f != (api.Fault{}) {
					t.Errorf("%.20s of %#x, %#x: %#x, %#x, %v, not %#x, %#x", do, b, p, got, out, f, want, flags)
				}
			}
		}
	}
}

// P22.5: chains whose answer is written here.
func TestChainByHand(t *testing.T) {
	for _, x := range []struct {
		do         string
		b, p       byte
		want, flag byte
	}{
		{"AR", 0x80, 0, 0x01, 0x00}, {"LO", 0x01, 0, 0x80, 0x80}, {"RA", 0x80, 1, 0x02, 0x00}, {"II", 0xFE, 0x01, 0x00, 0x03}, {"DA", 0x00, 0x00, 0xFE, 0x81},
		{strings.Repeat("I", 1000), 0, 0, 1000 % 256, 0x80}, {strings.Repeat("R", 9), 0xA5, 1, 0xA5, 0x81}, {"ID", 0x00, 0xFD, 0x00, 0x7F},
	} {
		if got, out, f := logic.Chain(x.do, x.b, x.p); got != x.want || out != x.flag || f != (api.Fault{}) {
			t.Errorf("%.20s of %#x, %#x: %#x, %#x, %v", x.do, x.b, x.p, got, out, f)
		}
	}
}

// P22.5, P2: more than 1000 letters are too many, whatever they are; beside it stands 0.
func TestChainLong(t *testing.T) {
	for _, do := range []string{
		strings.Repeat("I", 1001), strings.Repeat("A", 1002), strings.Repeat("R", 100000), "?" + strings.Repeat("I", 1000), strings.Repeat("I", 1000) + "?", strings.Repeat("\x00", 1001), strings.Repeat("i", 5000),
	} {
		for _, x := range [][2]byte{{0, 0}, {0xA5, 0xFF}} {
			if got, out, f := logic.Chain(do, x[0], x[1]); got != 0 || out != 0 || f != (api.Fault{Errno: api.ErrLong, At: 1000}) {
				t.Errorf("%d letters, %#x: %#x, %#x, %v", len(do), x, got, out, f)
			}
		}
	}
}

// P22.5, P2: the first letter that is none of those is told; beside it stands 0.
func TestChainWrong(t *testing.T) {
	for do, at := range map[string]int{
		"?": 0, " ": 0, "\x00": 0, "a": 0, "l": 0, "r": 0, "o": 0, "i": 0, "d": 0, "0": 0, "IX": 1, "AL ": 2, " AL": 0, "ALROIDB": 6, "ALROIDa": 6, "A?L?": 1, "II\nII": 2,
		"ÀA": 0, "A\xFF": 1, "IIIÐ": 3, "A,L": 1, strings.Repeat("D", 999) + "d": 999, strings.Repeat("D", 500) + "." + strings.Repeat("D", 499): 500, strings.Repeat("\xFF", 1000): 0,
	} {
		for _, x := range [][2]byte{{0, 0}, {0xA5, 0xFF}} {
			if got, out, f := logic.Chain(do, x[0], x[1]); got != 0 || out != 0 || f != (api.Fault{Errno: api.ErrKind, At: at}) {
				t.Errorf("%.20q, %#x: %#x, %#x, %v", do, x, got, out, f)
			}
		}
	}
}

// P22.5: all bytes but the six are no letters.
func TestChainEachByte(t *testing.T) {
	rows(func(letter byte) {
		want := api.Fault{Errno: api.ErrKind, At: 3}
		if letters[letter] != nil {
			want = api.Fault{}
		}
		if _, _, f := logic.Chain(string([]byte{'A', 'L', 'I', letter, 'D'}), 7, 0); f != want {
			t.Errorf("%q: %v", letter, f)
		}
	})
}

// P22.6: Rol and Ror undo one another, byte and C; Inc and Dec do.
func TestUndone(t *testing.T) {
	for _, x := range [][2]byte{{'R', 'O'}, {'O', 'R'}, {'I', 'D'}, {'D', 'I'}} {
		pairs(func(b, p byte) {
			got, out := letters[x[1]](letters[x[0]](b, p))
			if got != b || out&0x7D != p&0x7D {
				t.Errorf("%c%c of %#x, %#x: %#x, %#x", x[0], x[1], b, p, got, out)
			}
			if again, flags, f := logic.Chain(string(x[:]), b, p); again != got || flags != out || f != (api.Fault{}) {
				t.Errorf("%s of %#x, %#x: %#x, %#x, %v", x, b, p, again, flags, f)
			}
		})
	}
}

// P22.6: what was set by Tsb is gone by Trb; what was there beside it stays.
func TestGone(t *testing.T) {
	pairs(func(a, m byte) {
		set, p := logic.Tsb(a, m, 0)
		got, _ := logic.Trb(a, set, p)
		want := made(func(k int) bool { return bit(m, k) && !bit(a, k) })
		if got != want {
			t.Errorf("%#x, %#x: %#x, not %#x", a, m, got, want)
		}
		if common, _ := logic.And(a, got, 0); common != 0 {
			t.Errorf("%#x, %#x: %#x is left", a, m, common)
		}
	})
}

// The examples of the chapter.
func TestExamples(t *testing.T) {
	if got, p := logic.Asl(0x81, 0); got != 0x02 || p != api.FlagC {
		t.Errorf("Asl(0x81, 0): %#x, %#x", got, p)
	}
	if got, p := logic.Tsb(0x0F, 0xF0, 0); got != 0xFF || p != api.FlagN|api.FlagV|api.FlagZ {
		t.Errorf("Tsb(0x0F, 0xF0, 0): %#x, %#x", got, p)
	}
}
