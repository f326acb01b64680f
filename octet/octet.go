// Package octet has bytes and words, bit by bit. See ../../shared/doc/01-octet.md.
package octet

import "gannet/api"

// most is how many digits a number of 32 bits has.
const most = 8

// Bit tells whether a bit of a byte is set.
func Bit(b byte, n int) bool {
	return b&mask(n) != 0
}

// With is a byte with a bit set, or clear.
func With(b byte, n int, on bool) byte {
	if on {
		return b | mask(n)
	}
	return b &^ mask(n)
}

// mask is a byte of one bit, or of none, where there is no such bit.
func mask(n int) byte {
	if n < 0 || n > 7 {
		return 0
	}
	return 1 << n
}

// Lo is a word's low byte.
func Lo(w uint16) byte { return byte(w) }

// Hi is a word's high byte.
func Hi(w uint16) byte { return byte(w >> 8) }

// Word is a word of two bytes.
func Word(lo, hi byte) uint16 { return uint16(hi)<<8 | uint16(lo) }

// Signed is a byte's number, from -128 to 127.
func Signed(b byte) int { return int(int8(b)) }

// Left turns a byte left, through a bit.
func Left(b byte, in bool) (byte, bool) { return With(b<<1, 0, in), Bit(b, 7) }

// Right turns a byte right, through a bit.
func Right(b byte, in bool) (byte, bool) { return With(b>>1, 7, in), Bit(b, 0) }

// Count is how many bits are set.
func Count(b byte) int {
	sum := 0
	for n := range 8 {
		if Bit(b, n) {
			sum++
		}
	}
	return sum
}

// First is the lowest bit that is set.
func First(b byte) int {
	for n := range 8 {
		if Bit(b, n) {
			return n
		}
	}
	return -1
}

// Pack is a number in two decimal digits.
func Pack(n int) (byte, api.Errno) {
	if n < 0 || n > 99 {
		return 0, api.ErrRange
	}
	return byte(n/10*16 + n%10), api.OK
}

// Unpack is the number that two decimal digits are.
func Unpack(b byte) (int, api.Errno) {
	tens, ones := int(b/16), int(b%16)
	if tens > 9 || ones > 9 {
		return 0, api.ErrForm
	}
	return 10*tens + ones, api.OK
}

// figures is all digits, each at its own number.
func figures() [16]byte {
	return [16]byte{'0', '1', '2', '3', '4', '5', '6', '7', '8', '9', 'A', 'B', 'C', 'D', 'E', 'F'}
}

// value is the number of a digit; false, if it is none.
func value(c byte) (uint32, bool) {
	for v, d := range figures() {
		if d == c {
			return uint32(v), true
		}
	}
	return 0, false
}

// Hex writes a number in so many digits.
func Hex(n uint32, digits int) string {
	all := figures()
	out := make([]byte, min(max(digits, 1), most))
	for i := range len(out) {
		out[len(out)-1-i] = all[n%16]
		n /= 16
	}
	return string(out)
}

// FromHex reads a number.
func FromHex(s string) (uint32, api.Errno) {
	switch {
	case len(s) == 0:
		return 0, api.ErrShort
	case len(s) > most:
		return 0, api.ErrLong
	}
	n := uint32(0)
	for i := range len(s) {
		v, ok := value(s[i])
		if !ok {
			return 0, api.ErrForm
		}
		n = 16*n + v
	}
	return n, api.OK
}
