package trace_test

import (
	"fmt"
	"testing"

	"gannet/api"
	"gannet/trace"
)

// latest is the last stamp that may be packed.
const latest = 1 << 50

// packable is the accesses at all edges of what may be packed, and some within.
func packable() []api.Access {
	return []api.Access{
		{}, {Stamp: 1}, {Stamp: 9}, {Stamp: 10}, {Stamp: 12}, {Stamp: 123456789}, {Stamp: latest - 1}, {Stamp: latest},
		{Addr: 1}, {Addr: 0x1FFF}, {Addr: 0x2000}, {Addr: 0x123456}, {Addr: 1<<21 - 1},
		{Kind: api.Operand}, {Kind: api.Vector}, {Write: true}, {Data: 1}, {Data: 0x0A}, {Data: 0xFF},
		{Stamp: latest, Addr: 1<<21 - 1, Kind: 7, Write: true, Data: 0xFF},
	}
}

// refused is accesses that may not be packed, each for one thing alone, and for all.
func refused() []api.Access {
	return []api.Access{
		{Stamp: -1}, {Stamp: -3}, {Stamp: -1 << 63}, {Stamp: latest + 1}, {Stamp: 1<<63 - 1},
		{Addr: 1 << 21}, {Addr: 1<<21 + 1}, {Addr: 1<<24 + 5}, {Addr: 1<<32 - 1},
		{Kind: 8}, {Kind: 9}, {Kind: 16}, {Kind: 255},
		{Stamp: -1, Addr: 1 << 21, Kind: 8, Write: true, Data: 0xFF},
	}
}

// chance is numbers that follow one another.
type chance uint64

func (x *chance) next(n int) int {
	*x = *x*6364136223846793005 + 1442695040888963407
	return int(uint64(*x) >> 33 % uint64(n))
}

// row is accesses that may be packed: their stamps come by steps, or not.
func (x *chance) row(most int) []api.Access {
	var l []api.Access
	stamp := int64(0)
	for range x.next(most + 1) {
		switch x.next(8) {
		case 0:
			stamp = int64(x.next(1000))
		case 1:
			stamp = int64(x.next(1 << 30))
		case 2:
			stamp = latest - int64(x.next(50))
		default:
			stamp = min(stamp+[]int64{3, 6, 12, 24}[x.next(4)], latest)
		}
		l = append(l, api.Access{Stamp: stamp, Addr: uint32(x.next(1 << 21)), Kind: uint8(x.next(8)), Write: x.next(2) == 0, Data: byte(x.next(256))})
	}
	return l
}

// any is accesses of all sorts, such as may not be packed among them; few addresses, so that some come again.
func (x *chance) any(most int) []api.Access {
	var l []api.Access
	for range x.next(most + 1) {
		a := api.Access{Stamp: int64(x.next(40)) - 10, Addr: uint32(x.next(1<<22) &^ 0x3FF), Kind: uint8(x.next(10)), Write: x.next(2) == 0, Data: byte(x.next(256))}
		if x.next(2) == 0 {
			a.Addr = 0x1FE000 + uint32(x.next(8))*0x400 + uint32(x.next(2))<<21
		}
		l = append(l, a)
	}
	return l
}

// roomy is a row with spare room behind its end, and what it has there.
func roomy(l []api.Access) (row, whole []api.Access) {
	whole = append(append([]api.Access{}, l...), api.Access{Stamp: 77, Data: 0xAA}, api.Access{Stamp: 78, Data: 0xBB})
	return whole[:len(l)], whole
}

// packs packs a row that may be packed.
func packs(t *testing.T, l []api.Access) []byte {
	t.Helper()
	b, f := trace.Pack(l)
	if f != (api.Fault{}) {
		t.Fatalf("%v: %v", l, f)
	}
	return b
}

// changed tells whether what was told of some things is told otherwise now.
func changed(was string, things ...any) bool { return fmt.Sprint(things...) != was }
