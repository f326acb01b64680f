package octet_test

import (
	"fmt"
	"math"
	"math/bits"
	"strings"
	"testing"

	"gannet/api"
	"gannet/octet"
)

// numbers are bits, digits and decimals, the edges of each among them.
var numbers = []int{math.MinInt, math.MinInt32, -257, -256, -9, -8, -2, -1, 0, 1, 2, 3, 4, 5, 6, 7, 8, 9, 10, 15, 16, 31, 32, 63, 64, 98, 99, 100, 101, 255, 256, 1 << 32, math.MaxInt}

// rows calls f with every byte.
func rows(f func(b byte)) {
	for b := range 256 {
		f(byte(b))
	}
}

// P1.1: bit n, from 0 to 7, is 2 to the n in the byte.
func TestBit(t *testing.T) {
	rows(func(b byte) {
		for _, n := range numbers {
			want := 0 <= n && n <= 7 && int(b)/int(math.Pow(2, float64(n)))%2 == 1
			if got := octet.Bit(b, n); got != want {
				t.Errorf("Bit(%#x, %d): %v", b, n, got)
			}
		}
	})
}

// P1.1: With changes bit n alone, and nothing if there is no such bit.
func TestWith(t *testing.T) {
	rows(func(b byte) {
		for _, n := range numbers {
			for _, on := range []bool{false, true} {
				got := octet.With(b, n, on)
				if (n < 0 || n > 7) && got != b {
					t.Errorf("With(%#x, %d, %v): %#x", b, n, on, got)
				}
				for k := range 8 {
					want := octet.Bit(b, k)
					if k == n {
						want = on
					}
					if octet.Bit(got, k) != want {
						t.Errorf("With(%#x, %d, %v): %#x", b, n, on, got)
					}
				}
			}
		}
	})
}

// P1.2: a word is its low byte, and 256 times its high one.
func TestWords(t *testing.T) {
	for n := range 1 << 16 {
		w := uint16(n)
		if int(octet.Lo(w)) != n%256 || int(octet.Hi(w)) != n/256 {
			t.Errorf("%#x: low %#x, high %#x", w, octet.Lo(w), octet.Hi(w))
		}
		if got := octet.Word(byte(n%256), byte(n/256)); got != w {
			t.Errorf("Word of %#x: %#x", w, got)
		}
	}
}

// P1.2: above 127 a byte's number is 256 less.
func TestSigned(t *testing.T) {
	rows(func(b byte) {
		want := int(b)
		if b > 127 {
			want -= 256
		}
		if got := octet.Signed(b); got != want {
			t.Errorf("Signed(%#x): %d", b, got)
		}
	})
}

// P1.3: a byte goes left by a bit: one comes in at bit 0, and bit 7 goes out.
func TestLeft(t *testing.T) {
	rows(func(b byte) {
		for in, add := range map[bool]int{false: 0, true: 1} {
			got, out := octet.Left(b, in)
			if int(got) != (2*int(b)+add)%256 || out != (b >= 128) {
				t.Errorf("Left(%#x, %v): %#x, %v", b, in, got, out)
			}
		}
	})
}

// P1.3: a byte goes right by a bit: one comes in at bit 7, and bit 0 goes out.
func TestRight(t *testing.T) {
	rows(func(b byte) {
		for in, add := range map[bool]int{false: 0, true: 128} {
			got, out := octet.Right(b, in)
			if int(got) != int(b)/2+add || out != (b%2 == 1) {
				t.Errorf("Right(%#x, %v): %#x, %v", b, in, got, out)
			}
		}
	})
}

// P1.4: how many bits are set, and the lowest one.
func TestCountAndFirst(t *testing.T) {
	rows(func(b byte) {
		if got := octet.Count(b); got != bits.OnesCount8(b) {
			t.Errorf("Count(%#x): %d", b, got)
		}
		want := bits.TrailingZeros8(b)
		if b == 0 {
			want = -1
		}
		if got := octet.First(b); got != want {
			t.Errorf("First(%#x): %d", b, got)
		}
	})
}

// P1.5: numbers from 0 to 99 are packed in two decimal digits; of others ErrRange, and 0 (P2).
func TestPack(t *testing.T) {
	for n := range 100 {
		got, e := octet.Pack(n)
		if e != api.OK || fmt.Sprintf("%02X", got) != fmt.Sprintf("%02d", n) {
			t.Errorf("Pack(%d): %#x, %d", n, got, e)
		}
	}
	for _, n := range numbers {
		if got, e := octet.Pack(n); (n < 0 || n > 99) && (got != 0 || e != api.ErrRange) {
			t.Errorf("Pack(%d): %#x, %d", n, got, e)
		}
	}
}

// P1.5: Unpack answers what Pack was given; of bytes that Pack doesn't answer ErrForm, and 0 (P2).
func TestUnpack(t *testing.T) {
	of := map[byte]int{}
	for n := range 100 {
		b, _ := octet.Pack(n)
		of[b] = n
	}
	rows(func(b byte) {
		n, known := of[b]
		want := api.OK
		if !known {
			want = api.ErrForm
		}
		if got, e := octet.Unpack(b); got != n || e != want {
			t.Errorf("Unpack(%#x): %d, %d", b, got, e)
		}
	})
	if _, e := octet.Unpack(0x99); e != api.OK {
		t.Error("0x99 is 99")
	}
}

// words are numbers of up to 8 digits, each digit at each place among them.
func words() []uint32 {
	l := []uint32{0, 1, 9, 10, 15, 16, 255, 256, 0x1FF402, 0x01234567, 0x89ABCDEF, 0xFEDCBA98, math.MaxInt32, math.MaxInt32 + 1, math.MaxUint32}
	for place := range 8 {
		for d := range uint32(16) {
			l = append(l, d<<(4*place))
		}
	}
	return l
}

// P1.6: as many digits as are asked for, held from 1 to 8, the highest one first.
func TestHex(t *testing.T) {
	for _, n := range words() {
		for _, digits := range numbers {
			count := min(max(digits, 1), 8)
			want := fmt.Sprintf("%08X", n)[8-count:]
			if got := octet.Hex(n, digits); got != want {
				t.Errorf("Hex(%#x, %d): %s", n, digits, got)
			}
		}
	}
}

// P1.6: a number of 1 to 8 digits is read.
func TestFromHex(t *testing.T) {
	for s, want := range map[string]uint32{"0": 0, "F": 15, "00000000": 0, "0000001": 1, "10": 16, "1FF402": 0x1FF402, "89ABCDEF": 0x89ABCDEF, "FFFFFFFF": math.MaxUint32} {
		if got, e := octet.FromHex(s); got != want || e != api.OK {
			t.Errorf("FromHex(%s): %#x, %d", s, got, e)
		}
	}
}

// P1.6: ErrShort, ErrLong, ErrForm: the first one that applies, and the number 0 (P2).
func TestFromHexErrors(t *testing.T) {
	for s, want := range map[string]api.Errno{
		"":                            api.ErrShort,
		"123456789":                   api.ErrLong,
		"000000000":                   api.ErrLong,
		"ABCDEFG89":                   api.ErrLong,
		strings.Repeat("\x00", 1000):  api.ErrLong,
		" ":                           api.ErrForm,
		"G":                           api.ErrForm,
		"1FF40x":                      api.ErrForm,
		"x1FF40":                      api.ErrForm,
		"1FF4 02":                     api.ErrForm,
		"0x12":                        api.ErrForm,
		"-1":                          api.ErrForm,
		"+1":                          api.ErrForm,
		"1_0":                         api.ErrForm,
		"1\n":                         api.ErrForm,
		"\x00":                        api.ErrForm,
		"\xff\xfe":                    api.ErrForm,
		"1\u00e9":                     api.ErrForm,
		"\uff11":                      api.ErrForm,
		"ff":                          api.ErrForm,
		"1FF40a":                      api.ErrForm,
		"zzzzzzzz":                    api.ErrForm,
		"FFFFFFFg":                    api.ErrForm,
		"\U0001d7d9\U0001d7d9":        api.ErrForm,
		"\U0001d7d9\U0001d7d9\u00e91": api.ErrLong,
	} {
		if got, e := octet.FromHex(s); got != 0 || e != want {
			t.Errorf("FromHex(%q): %#x, %d", s, got, e)
		}
	}
}

// P1.6: of all bytes just 0 to 9 and A to F are digits.
func TestDigits(t *testing.T) {
	rows(func(b byte) {
		want := strings.IndexByte("0123456789ABCDEF", b)
		got, e := octet.FromHex(string([]byte{b}))
		if want >= 0 && (int(got) != want || e != api.OK) || want < 0 && (got != 0 || e != api.ErrForm) {
			t.Errorf("%q: %d, %d", b, got, e)
		}
	})
}

// P1.7: nine turns through the same bit give back byte and bit, and a turn is undone by the other one.
func TestTurns(t *testing.T) {
	rows(func(b byte) {
		for _, in := range []bool{false, true} {
			for _, turn := range []func(byte, bool) (byte, bool){octet.Left, octet.Right} {
				c, bit := b, in
				for range 9 {
					c, bit = turn(c, bit)
				}
				if c != b || bit != in {
					t.Errorf("nine turns of %#x, %v: %#x, %v", b, in, c, bit)
				}
			}
			if c, bit := octet.Right(octet.Left(b, in)); c != b || bit != in {
				t.Errorf("left and right of %#x, %v: %#x, %v", b, in, c, bit)
			}
		}
	})
}

// P1.7: a number is read as it was written, in 8 digits or in as many as it has.
func TestReadAsWritten(t *testing.T) {
	for _, n := range words() {
		for digits := max(1, (bits.Len32(n)+3)/4); digits <= 8; digits++ {
			if got, e := octet.FromHex(octet.Hex(n, digits)); got != n || e != api.OK {
				t.Errorf("%#x in %d digits: %#x, %d", n, digits, got, e)
			}
		}
	}
}

// P5: what was answered once is answered again.
func TestAgain(t *testing.T) {
	first := octet.Hex(0xABCDEF01, 8)
	octet.Hex(0x12345678, 8)
	if first != "ABCDEF01" || octet.Hex(0xABCDEF01, 8) != first {
		t.Error("a number written twice")
	}
}

// The examples of the chapter.
func TestExamples(t *testing.T) {
	if b, out := octet.Left(0x81, false); b != 0x02 || !out {
		t.Error("Left(0x81, false)")
	}
	if b, out := octet.Right(0x81, true); b != 0xC0 || !out {
		t.Error("Right(0x81, true)")
	}
	if b, e := octet.Pack(42); b != 0x42 || e != api.OK {
		t.Error("Pack(42)")
	}
	if n, e := octet.Unpack(0x4A); n != 0 || e != api.ErrForm {
		t.Error("Unpack(0x4A)")
	}
	if octet.Hex(0x1FF402, 6) != "1FF402" {
		t.Error("Hex(0x1FF402, 6)")
	}
}
