package adder_test

import (
	"bytes"
	"math"
	"slices"
	"strconv"
	"testing"

	"gannet/adder"
	"gannet/api"
)

const (
	c = api.FlagC
	z = api.FlagZ
	d = api.FlagD
	v = api.FlagV
	n = api.FlagN
)

// pairs calls f with every pair of bytes.
func pairs(f func(a, b byte)) {
	for a := range 256 {
		for b := range 256 {
			f(byte(a), byte(b))
		}
	}
}

// states is registers P with the flags given set and clear, all others being clear, or set.
func states(set, clear byte) []byte {
	var out []byte
	for _, p := range []byte{0, 255} {
		out = append(out, (p|set)&^clear)
	}
	return out
}

// carries is the states of D clear, or set, with C clear and set.
func carries(decimal bool) []byte {
	if decimal {
		return append(states(d, c), states(d|c, 0)...)
	}
	return append(states(0, d|c), states(c, d)...)
}

// of is 1 of what is so, else 0.
func of(yes bool) int {
	if yes {
		return 1
	}
	return 0
}

// signed is a byte's number with a sign.
func signed(b byte) int {
	if b > 127 {
		return int(b) - 256
	}
	return int(b)
}

// flagged is p with the flags of which is given set and clear.
func flagged(p byte, is map[byte]bool) byte {
	out := int(p)
	for flag, on := range is {
		had := int(p)/int(flag)%2 == 1
		out += int(flag) * (of(on) - of(had))
	}
	return byte(out)
}

// answer is what a sum, or a difference, answers.
type answer struct {
	v, p   byte
	longer bool
}

func add(a, b, p byte) answer {
	got, flags, longer := adder.Add(a, b, p)
	return answer{got, flags, longer}
}

func sub(a, b, p byte) answer {
	got, flags, longer := adder.Sub(a, b, p)
	return answer{got, flags, longer}
}

// P21.1: D clear: the sum modulo 256; C, V, N and Z by it; all other flags stay; it doesn't take longer.
func TestAdd(t *testing.T) {
	for _, p := range carries(false) {
		in := int(p) % 2
		pairs(func(a, b byte) {
			sum := int(a) + int(b) + in
			exact := signed(a) + signed(b) + in
			w := byte(sum % 256)
			want := answer{w, flagged(p, map[byte]bool{c: sum >= 256, v: exact < -128 || exact > 127, n: w >= 128, z: w == 0}), false}
			if got := add(a, b, p); got != want {
				t.Errorf("Add(%#x, %#x, %#x): %v, not %v", a, b, p, got, want)
			}
		})
	}
}

// P21.1, P21.3: sums and differences whose answer is written here.
func TestByHand(t *testing.T) {
	for _, x := range []struct {
		a, b, p  byte
		sum, dif answer
	}{
		{0, 0, 0, answer{0, z, false}, answer{0xFF, n, false}},
		{0, 0, c, answer{1, 0, false}, answer{0, z | c, false}},
		{0x7F, 1, 0, answer{0x80, n | v, false}, answer{0x7D, c, false}},
		{0x80, 1, 0, answer{0x81, n, false}, answer{0x7E, v | c, false}},
		{0x80, 0x80, 0, answer{0, z | v | c, false}, answer{0xFF, n, false}},
		{0x80, 0xFF, 0, answer{0x7F, v | c, false}, answer{0x80, n, false}},
		{0x7F, 0xFF, c, answer{0x7F, c, false}, answer{0x80, n | v, false}},
		{0xFF, 0xFF, c, answer{0xFF, n | c, false}, answer{0, z | c, false}},
		{0x7F, 0, c, answer{0x80, n | v, false}, answer{0x7F, c, false}},
		{0x50, 0xB0, 0xF7, answer{0x01, 0x35, false}, answer{0xA0, 0xF4, false}},
		{0x3A, 0xC6, 0, answer{0, z | c, false}, answer{0x73, 0, false}},
	} {
		if got := add(x.a, x.b, x.p); got != x.sum {
			t.Errorf("Add(%#x, %#x, %#x): %v, not %v", x.a, x.b, x.p, got, x.sum)
		}
		if got := sub(x.a, x.b, x.p); got != x.dif {
			t.Errorf("Sub(%#x, %#x, %#x): %v, not %v", x.a, x.b, x.p, got, x.dif)
		}
	}
}

// P21.2: D set: digit by digit; V stays, and it takes longer.
func TestAddDecimal(t *testing.T) {
	for _, p := range carries(true) {
		pairs(func(a, b byte) {
			lower := int(a)%16 + int(b)%16 + int(p)%2
			if lower >= 10 {
				lower += 6
			}
			upper := int(a)/16 + int(b)/16 + of(lower >= 16)
			if upper >= 10 {
				upper += 6
			}
			w := byte(upper%16*16 + lower%16)
			want := answer{w, flagged(p, map[byte]bool{c: upper >= 16, n: w >= 128, z: w == 0}), true}
			if got := add(a, b, p); got != want {
				t.Errorf("Add(%#x, %#x, %#x): %v, not %v", a, b, p, got, want)
			}
		})
	}
}

// P21.3: D clear: the sum of a, and of 255 less b; it is a less b, less one if C is clear.
func TestSub(t *testing.T) {
	for _, p := range carries(false) {
		in := int(p) % 2
		pairs(func(a, b byte) {
			left := int(a) - int(b) - 1 + in
			exact := signed(a) - signed(b) - 1 + in
			w := byte((left + 256) % 256)
			want := answer{w, flagged(p, map[byte]bool{c: left >= 0, v: exact < -128 || exact > 127, n: w >= 128, z: w == 0}), false}
			if got := sub(a, b, p); got != want {
				t.Errorf("Sub(%#x, %#x, %#x): %v, not %v", a, b, p, got, want)
			}
			if got := add(a, 255-b, p); got != want {
				t.Errorf("Add(%#x, 255-%#x, %#x): %v, not %v", a, b, p, got, want)
			}
		})
	}
}

// P21.3: D set: digit by digit; V stays, and it takes longer.
func TestSubDecimal(t *testing.T) {
	for _, p := range carries(true) {
		pairs(func(a, b byte) {
			lower := int(a)%16 - int(b)%16 - 1 + int(p)%2
			borrowed := of(lower < 0)
			lower += 10 * borrowed
			upper := int(a)/16 - int(b)/16 - borrowed
			below := upper < 0
			upper += 10 * of(below)
			w := byte((upper+16)%16*16 + (lower+16)%16)
			want := answer{w, flagged(p, map[byte]bool{c: !below, n: w >= 128, z: w == 0}), true}
			if got := sub(a, b, p); got != want {
				t.Errorf("Sub(%#x, %#x, %#x): %v, not %v", a, b, p, got, want)
			}
		})
	}
}

// P21.2, P21.3: D set: sums and differences whose answer is written here, of digits above 9, too.
func TestDecimalByHand(t *testing.T) {
	for _, x := range []struct {
		a, b, p  byte
		sum, dif answer
	}{
		{0, 0, d, answer{0, d | z, true}, answer{0x99, d | n, true}},
		{0, 0, d | c, answer{1, d, true}, answer{0, d | z | c, true}},
		{0x19, 0x01, d, answer{0x20, d, true}, answer{0x17, d | c, true}},
		{0x99, 0x01, d, answer{0, d | z | c, true}, answer{0x97, d | n | c, true}},
		{0x99, 0x99, d | c, answer{0x99, d | n | c, true}, answer{0, d | z | c, true}},
		{0x79, 0x01, d | v, answer{0x80, d | n | v, true}, answer{0x77, d | c | v, true}},
		{0x50, 0x50, d, answer{0, d | z | c, true}, answer{0x99, d | n, true}},
		{0x10, 0x05, d | c, answer{0x16, d, true}, answer{0x05, d | c, true}},
		// Digits above 9: 15 and 15 are 30, and 6 are 36, of which one alone is carried; 0 less 15 is -15, and 10 are -5, which is 11.
		{0x0F, 0x0F, d, answer{0x14, d, true}, answer{0x99, d | n, true}},
		{0xFF, 0xFF, d | c, answer{0x55, d | c, true}, answer{0, d | z | c, true}},
		{0x00, 0x0F, d | c, answer{0x16, d, true}, answer{0x9B, d | n, true}},
		{0x00, 0xFF, d, answer{0x65, d | c, true}, answer{0xAA, d | n, true}},
		{0x0A, 0x00, d, answer{0x10, d, true}, answer{0x09, d | c, true}},
		{0xA0, 0x00, d | c, answer{0x01, d | c, true}, answer{0xA0, d | n | c, true}},
		{0xFA, 0x00, 255, answer{0x61, 0x7D, true}, answer{0xFA, 0xFD, true}},
	} {
		if got := add(x.a, x.b, x.p); got != x.sum {
			t.Errorf("Add(%#x, %#x, %#x): %v, not %v", x.a, x.b, x.p, got, x.sum)
		}
		if got := sub(x.a, x.b, x.p); got != x.dif {
			t.Errorf("Sub(%#x, %#x, %#x): %v, not %v", x.a, x.b, x.p, got, x.dif)
		}
	}
}

// P21.1 to P21.3: which flags are asked, and which are changed: none but D and C, and C, V, N and Z (with D set not V).
func TestOtherFlags(t *testing.T) {
	for p := range 256 {
		p := byte(p)
		changed := byte(c | z | v | n)
		if p&d != 0 {
			changed = c | z | n
		}
		for _, do := range []func(a, b, p byte) answer{add, sub} {
			for _, x := range [][2]byte{{0, 0}, {0x7F, 0x7F}, {0x80, 0x80}, {0x45, 0x38}, {0xFF, 0x01}, {0x01, 0xFF}} {
				got, bare := do(x[0], x[1], p), do(x[0], x[1], p&(d|c))
				want := answer{bare.v, p&^changed | bare.p&changed, p&d != 0}
				if got != want {
					t.Errorf("%#x, %#x, %#x: %v, not %v", x[0], x[1], p, got, want)
				}
			}
		}
	}
}

// P21.4: C just if it isn't below, N and Z by the difference; all others stay, and D and C aren't asked.
func TestCompare(t *testing.T) {
	for _, p := range []byte{0, c, d, d | c, 255, 255 - c, 255 - d, 0x7C} {
		pairs(func(r, b byte) {
			w := byte((int(r) - int(b) + 256) % 256)
			want := flagged(p, map[byte]bool{c: int(r)-int(b) >= 0, n: w >= 128, z: r == b})
			if got := adder.Compare(r, b, p); got != want {
				t.Errorf("Compare(%#x, %#x, %#x): %#x, not %#x", r, b, p, got, want)
			}
		})
	}
	for _, x := range [][4]byte{{5, 5, 0, z | c}, {5, 6, 0, n}, {6, 5, 0, c}, {0x80, 1, 0, c}, {0, 0x80, 0, n}, {0xFF, 0, 0, n | c}, {0, 1, 255, 0xFC}, {1, 1, 255, 0x7F}} {
		if got := adder.Compare(x[0], x[1], x[2]); got != x[3] {
			t.Errorf("Compare(%#x, %#x, %#x): %#x, not %#x", x[0], x[1], x[2], got, x[3])
		}
	}
}

// row is so many bytes of any kind, by a seed.
func row(many, seed int) []byte {
	out := make([]byte, many)
	for i := range out {
		seed = (seed*1103515245 + 12345) % (1 << 31)
		out[i] = byte(seed >> 16)
	}
	return out
}

// P21.5: byte by byte, each with the flags of the one ahead.
func TestLong(t *testing.T) {
	for _, many := range []int{0, 1, 2, 3, 8, 100, 5000} {
		a, b := row(many, 1), row(many, 2)
		for _, p := range []byte{0, c, d, d | c, v, d | v, 255, 255 - d, 255 - c} {
			for _, less := range []bool{false, true} {
				do := add
				if less {
					do = sub
				}
				want, flags := make([]byte, many), p
				for i := range many {
					x := do(a[i], b[i], flags)
					want[i], flags = x.v, x.p
				}
				got, out, e := adder.Long(a, b, p, less)
				if !bytes.Equal(got, want) || out != flags || e != api.OK {
					t.Errorf("%d bytes, %#x, %v: flags %#x, not %#x; %d", many, p, less, out, flags, e)
				}
			}
		}
	}
}

// P21.5: rows whose answer is written here.
func TestLongByHand(t *testing.T) {
	for _, x := range []struct {
		a, b  []byte
		p     byte
		less  bool
		want  []byte
		flags byte
	}{
		{nil, nil, 0, false, nil, 0},
		{nil, nil, 0x5B, true, nil, 0x5B},
		{[]byte{}, nil, 255, false, nil, 255},
		{[]byte{0xFF}, []byte{1}, 0, false, []byte{0}, z | c},
		{[]byte{0xFF, 0xFF, 0x00}, []byte{0x01, 0x00, 0x00}, 0, false, []byte{0, 0, 1}, 0},
		{[]byte{0xFF, 0xFF}, []byte{0xFF, 0x7F}, c, false, []byte{0xFF, 0x7F}, c},
		{[]byte{0xFF, 0x7F}, []byte{0x01, 0x00}, 0, false, []byte{0x00, 0x80}, n | v},
		{[]byte{0x00, 0x01}, []byte{0x01, 0x00}, c, true, []byte{0xFF, 0x00}, z | c},
		{[]byte{0x00, 0x00}, []byte{0x01, 0x00}, c, true, []byte{0xFF, 0xFF}, n},
		{[]byte{0x99, 0x09}, []byte{0x01, 0x00}, d, false, []byte{0x00, 0x10}, d},
		{[]byte{0x00, 0x10}, []byte{0x01, 0x00}, d | c, true, []byte{0x99, 0x09}, d | c},
		{[]byte{0x00, 0x10}, []byte{0x01, 0x20}, d | c | v, true, []byte{0x99, 0x89}, d | v | n},
	} {
		got, flags, e := adder.Long(x.a, x.b, x.p, x.less)
		if !bytes.Equal(got, x.want) || flags != x.flags || e != api.OK {
			t.Errorf("Long(%x, %x, %#x, %v): %x, %#x, %d", x.a, x.b, x.p, x.less, got, flags, e)
		}
	}
}

// P21.5, P2: of rows that aren't as long as one another nothing is answered.
func TestLongOther(t *testing.T) {
	for _, x := range [][2][]byte{{nil, {1}}, {{1}, nil}, {{}, {0}}, {{1, 2}, {1}}, {{1}, {1, 2}}, {row(1000, 1), row(1001, 1)}} {
		for _, p := range []byte{0, c, d, 255} {
			for _, less := range []bool{false, true} {
				if got, flags, e := adder.Long(x[0], x[1], p, less); len(got) != 0 || flags != 0 || e != api.ErrOther {
					t.Errorf("%d and %d bytes, %#x, %v: %x, %#x, %d", len(x[0]), len(x[1]), p, less, got, flags, e)
				}
			}
		}
	}
}

// P3, P5: rows stay as they are, spare room, too; what is answered is the caller's, and is answered again.
func TestLongApart(t *testing.T) {
	for _, p := range []byte{c, d | c} {
		for _, less := range []bool{false, true} {
			a, b := row(20, 3), row(20, 4)
			wasA, wasB := slices.Clone(a), slices.Clone(b)
			one, flags, _ := adder.Long(a[:10], b[:10], p, less)
			kept := slices.Clone(one)
			same, _, _ := adder.Long(a[:10], a[:10], p, less)
			clear(same[:cap(same)])
			clear(one[:cap(one)])
			again, more, e := adder.Long(a[:10], b[:10], p, less)
			if !bytes.Equal(a, wasA) || !bytes.Equal(b, wasB) {
				t.Errorf("%#x, %v: a row is changed", p, less)
			}
			if !bytes.Equal(again, kept) || more != flags || e != api.OK {
				t.Errorf("%#x, %v: %x, %#x, %d, not %x, %#x", p, less, again, more, e, kept, flags)
			}
		}
	}
}

// P21.6: the lowest digits, two a byte, the lowest byte first; from no byte to ten.
func TestDigits(t *testing.T) {
	for _, number := range []uint64{0, 1, 9, 10, 42, 99, 100, 1234, 987654321, 12345678901234567890, 10000000000000000000, 9999999999999999999, math.MaxInt64, math.MaxUint64} {
		text := "00000000000000000000" + strconv.FormatUint(number, 10)
		for _, many := range []int{math.MinInt, -2, -1, 0, 1, 2, 3, 5, 9, 10, 11, 12, 1000, math.MaxInt} {
			held := min(max(many, 0), 10)
			got := adder.Digits(number, many)
			if len(got) != held {
				t.Fatalf("Digits(%d, %d): %x", number, many, got)
			}
			for i, b := range got {
				two := text[len(text)-2*i-2 : len(text)-2*i]
				if w, _ := strconv.ParseUint(two, 16, 8); b != byte(w) {
					t.Errorf("Digits(%d, %d): %x", number, many, got)
				}
			}
		}
	}
}

// P21.6: digits that are written here.
func TestDigitsByHand(t *testing.T) {
	for _, x := range []struct {
		number uint64
		many   int
		want   []byte
	}{
		{1234, 3, []byte{0x34, 0x12, 0x00}}, {1234, 1, []byte{0x34}}, {1234, 0, nil}, {1234, -1, nil}, {0, 1, []byte{0}}, {0, 10, make([]byte, 10)}, {0, 11, make([]byte, 10)},
		{math.MaxUint64, 9, []byte{0x15, 0x16, 0x55, 0x09, 0x37, 0x07, 0x44, 0x67, 0x44}},
		{math.MaxUint64, 10, []byte{0x15, 0x16, 0x55, 0x09, 0x37, 0x07, 0x44, 0x67, 0x44, 0x18}},
		{math.MaxUint64, 11, []byte{0x15, 0x16, 0x55, 0x09, 0x37, 0x07, 0x44, 0x67, 0x44, 0x18}},
	} {
		if got := adder.Digits(x.number, x.many); !bytes.Equal(got, x.want) {
			t.Errorf("Digits(%d, %d): %x, not %x", x.number, x.many, got, x.want)
		}
	}
}

// two is a number below 100 in decimal digits.
func two(number int) byte { return byte(number/10*16 + number%10) }

// P21.7: of decimal digits a sum is the decimal sum, a difference the decimal difference.
func TestDecimal(t *testing.T) {
	for x := range 100 {
		for y := range 100 {
			for in := range 2 {
				p := byte(d + in)
				sum, left := x+y+in, x-y-1+in
				if got := add(two(x), two(y), p); got.v != two(sum%100) || got.p&c != byte(sum/100) || !got.longer {
					t.Errorf("%d and %d, and %d: %v", x, y, in, got)
				}
				if got := sub(two(x), two(y), p); got.v != two((left+100)%100) || got.p&c != byte(of(left >= 0)) || !got.longer {
					t.Errorf("%d less %d, less %d: %v", x, y, 1-in, got)
				}
			}
		}
	}
}

// P21.7: numbers of many decimal digits.
func TestLongDecimal(t *testing.T) {
	numbers := []uint64{0, 1, 9, 10, 99, 100, 999999, 1000000, 12345678, 87654321, 4999999999999999999, 5000000000000000000, 9999999999999999999}
	for _, x := range numbers {
		for _, y := range numbers {
			a, b := adder.Digits(x, 10), adder.Digits(y, 10)
			// A sum that a number can't hold is left out: it comes out below x.
			if sum := x + y; sum >= x {
				if got, p, e := adder.Long(a, b, d, false); !bytes.Equal(got, adder.Digits(sum, 10)) || p&c != 0 || e != api.OK {
					t.Errorf("%d and %d: %x, %#x, %d", x, y, got, p, e)
				}
			}
			if x >= y {
				if got, p, e := adder.Long(a, b, d|c, true); !bytes.Equal(got, adder.Digits(x-y, 10)) || p&c == 0 || e != api.OK {
					t.Errorf("%d less %d: %x, %#x, %d", x, y, got, p, e)
				}
			}
		}
	}
}

// P21.7: what was added is taken away again, bytes with D clear, decimal digits with D set; one that was added with C is one that is taken away with C clear.
func TestTakenAwayAgain(t *testing.T) {
	pairs(func(a, b byte) {
		for _, in := range []byte{0, c} {
			if got := sub(add(a, b, in).v, b, c-in); got.v != a {
				t.Errorf("%#x, %#x, %#x: %#x", a, b, in, got.v)
			}
			if a%16 > 9 || a/16 > 9 || b%16 > 9 || b/16 > 9 {
				continue
			}
			if got := sub(add(a, b, d+in).v, b, d+c-in); got.v != a {
				t.Errorf("%#x, %#x, %#x, decimal: %#x", a, b, in, got.v)
			}
		}
	})
	for _, many := range []int{1, 2, 7, 300} {
		a, b := row(many, 5), row(many, 6)
		sum, _, _ := adder.Long(a, b, 0, false)
		if got, _, e := adder.Long(sum, b, c, true); !bytes.Equal(got, a) || e != api.OK {
			t.Errorf("%d bytes: %x, not %x", many, got, a)
		}
		for i := range many {
			a[i], b[i] = two(int(a[i])%100), two(int(b[i])%100)
		}
		sum, _, _ = adder.Long(a, b, d, false)
		if got, _, e := adder.Long(sum, b, d|c, true); !bytes.Equal(got, a) || e != api.OK {
			t.Errorf("%d bytes, decimal: %x, not %x", many, got, a)
		}
	}
}

// The examples of the chapter.
func TestExamples(t *testing.T) {
	if got := add(0x7F, 1, 0); got != (answer{0x80, api.FlagN | api.FlagV, false}) {
		t.Errorf("Add(0x7F, 1, 0): %v", got)
	}
	if got := add(0x19, 0x01, api.FlagD); got != (answer{0x20, api.FlagD, true}) {
		t.Errorf("Add(0x19, 0x01, D): %v", got)
	}
	if got := sub(0x20, 0x01, api.FlagD|api.FlagC); got != (answer{0x19, api.FlagD | api.FlagC, true}) {
		t.Errorf("Sub(0x20, 0x01, D and C): %v", got)
	}
	if got := adder.Digits(1234, 3); !bytes.Equal(got, []byte{0x34, 0x12, 0x00}) {
		t.Errorf("Digits(1234, 3): %x", got)
	}
}
