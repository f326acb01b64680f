package trace

import (
	"slices"

	"gannet/api"
)

// An access' first byte is its kind, a bit that tells whether it writes, and its stamp's step.
const (
	written = 8
	each    = 16
)

// How many bytes a stamp has that is no step behind, and an address.
const (
	stampBytes = 8
	addrBytes  = 3
)

// Pack is a row of accesses, as bytes.
func Pack(l []api.Access) ([]byte, api.Fault) {
	var b []byte
	ahead := int64(0)
	for i, a := range l {
		if !may(a) {
			return nil, api.Fault{Errno: api.ErrRange, At: i}
		}
		b = append(b, packed(a, ahead)...)
		ahead = a.Stamp
	}
	return b, api.Fault{}
}

// packed is the bytes of an access that may be packed, behind one with the stamp ahead.
func packed(a api.Access, ahead int64) []byte {
	number := step(ahead, a.Stamp)
	first := a.Kind + byte(each*number)
	if a.Write {
		first += written
	}
	var stamp []byte
	if number == len(steps()) {
		stamp = low(uint64(a.Stamp), stampBytes)
		slices.Reverse(stamp)
	}
	return together([]byte{first}, stamp, low(uint64(a.Addr), addrBytes), []byte{a.Data})
}

// low is so many bytes of a number, the lowest one first.
func low(n uint64, count int) []byte {
	var l []byte
	for range count {
		l = append(l, byte(n))
		n >>= 8
	}
	return l
}

// together is parts of bytes, one behind the other.
func together(parts ...[]byte) []byte { return slices.Concat(parts...) }

// Unpack is the row of accesses of bytes.
func Unpack(b []byte) ([]api.Access, api.Fault) {
	var l []api.Access
	ahead := int64(0)
	for rest := b; len(rest) > 0; {
		a, n := unpacked(rest, ahead)
		if n == 0 {
			return nil, api.Fault{Errno: api.ErrForm, At: len(l)}
		}
		l = append(l, a)
		rest, ahead = rest[n:], a.Stamp
	}
	return l, api.Fault{}
}

// unpacked is the first access of bytes, behind one with the stamp ahead, and how many of them it has; 0, if they are none, not whole, or not as they would be packed.
func unpacked(b []byte, ahead int64) (api.Access, int) {
	first, rest := b[0], b[1:]
	number, all := int(first/each), steps()
	wide := 0
	if number == len(all) {
		wide = stampBytes
	}
	if number > len(all) || len(rest) < wide+addrBytes+1 {
		return api.Access{}, 0
	}
	stamp, addr, data := rest[:wide], rest[wide:wide+addrBytes], rest[wide+addrBytes]
	a := api.Access{Kind: first % written, Write: first%each >= written, Data: data}
	if number < len(all) {
		a.Stamp = ahead + all[number]
	}
	for _, v := range stamp {
		a.Stamp = a.Stamp<<8 | int64(v)
	}
	for i, v := range addr {
		a.Addr |= uint32(v) << (8 * i)
	}
	// A stamp that is told whole mustn't be a step behind.
	if !may(a) || step(ahead, a.Stamp) != number {
		return api.Access{}, 0
	}
	return a, 1 + wide + addrBytes + 1
}
