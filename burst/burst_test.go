package burst_test

import (
	"testing"

	"gannet/api"
	"gannet/burst"
	"gannet/moves"
)

// kinds is all kinds of blocks.
var kinds = []uint8{moves.Up, moves.Down, moves.ToOne, moves.ToTwo, moves.FromTwo}

// block is a block of a kind that there is.
func block(t *testing.T, kind uint8, from, to, length uint16) *burst.Burst {
	t.Helper()
	x, e := burst.New(kind, from, to, length)
	if x == nil || e != api.OK {
		t.Fatalf("kind %d: %v, %d", kind, x, e)
	}
	return x
}

// next holds the next access against what is wanted.
func next(t *testing.T, x *burst.Burst, kind uint8, at uint16) {
	t.Helper()
	if k, a := x.Next(); k != kind || a != at {
		t.Errorf("kind %d at %#x, not %d at %#x", k, a, kind, at)
	}
}

// stands holds what a block tells of itself against what is wanted.
func stands(t *testing.T, x *burst.Burst, left, phase int, data byte) {
	t.Helper()
	if x.Left() != left || x.Phase() != phase || x.Done() != (left == 0) || x.Data() != data {
		t.Errorf("%d left, phase %d, done %v, %#x; not %d, %d, %#x", x.Left(), x.Phase(), x.Done(), x.Data(), left, phase, data)
	}
}

// P31.1: of each kind there is a block, at its first byte's first cycle; of no other one.
func TestNew(t *testing.T) {
	for kind := range 256 {
		x, e := burst.New(uint8(kind), 5, 9, 2)
		if kind > moves.FromTwo {
			if x != nil || e != api.ErrKind {
				t.Errorf("kind %d: %v, %d", kind, x, e)
			}
			continue
		}
		if x == nil || e != api.OK {
			t.Fatalf("kind %d: %v, %d", kind, x, e)
		}
		stands(t, x, 2, 0, 0)
		next(t, x, api.Dummy, 0)
	}
	if x, e := burst.New(5, 0, 0, 0); x != nil || e != api.ErrKind {
		t.Errorf("%v, %d", x, e)
	}
}

// The example of the chapter, cycle by cycle; asked twice, as Next changes nothing.
func TestExample(t *testing.T) {
	x := block(t, moves.Up, 5, 9, 2)
	for i, want := range []struct {
		kind uint8
		at   uint16
	}{
		{api.Dummy, 0}, {api.Load, 5}, {api.Dummy, 0}, {api.Dummy, 0}, {api.Store, 9}, {api.Dummy, 0},
		{api.Dummy, 0}, {api.Load, 6}, {api.Dummy, 0}, {api.Dummy, 0}, {api.Store, 10}, {api.Dummy, 0},
	} {
		next(t, x, want.kind, want.at)
		next(t, x, want.kind, want.at)
		if x.Phase() != i%6 || x.Left() != 2-i/6 || x.Done() {
			t.Errorf("cycle %d: phase %d, %d left", i, x.Phase(), x.Left())
		}
		x.Step(byte(i))
	}
	stands(t, x, 0, 0, 7)
	next(t, x, api.Dummy, 0)
}

// to lets so many cycles go by.
func to(x *burst.Burst, n int) *burst.Burst {
	for range n {
		x.Step(0xEE)
	}
	return x
}

// P31.1: the six phases of the first, of a middle and of the last byte, of each kind, around the end of all addresses; by addresses that are written here.
func TestNext(t *testing.T) {
	for _, c := range []struct {
		kind     uint8
		from, to uint16
		n        int
		load     uint16
		store    uint16
	}{
		{moves.Up, 0x1000, 0x2000, 0, 0x1000, 0x2000}, {moves.Up, 0x1000, 0x2000, 3, 0x1003, 0x2003}, {moves.Up, 0x1000, 0x2000, 6, 0x1006, 0x2006},
		{moves.Down, 0x1000, 0x2000, 0, 0x1000, 0x2000}, {moves.Down, 0x1000, 0x2000, 3, 0x0FFD, 0x1FFD}, {moves.Down, 0x1000, 0x2000, 6, 0x0FFA, 0x1FFA},
		{moves.ToOne, 0x1000, 0x2000, 0, 0x1000, 0x2000}, {moves.ToOne, 0x1000, 0x2000, 3, 0x1003, 0x2000}, {moves.ToOne, 0x1000, 0x2000, 6, 0x1006, 0x2000},
		{moves.ToTwo, 0x1000, 0x2000, 0, 0x1000, 0x2000}, {moves.ToTwo, 0x1000, 0x2000, 3, 0x1003, 0x2001}, {moves.ToTwo, 0x1000, 0x2000, 6, 0x1006, 0x2000},
		{moves.FromTwo, 0x1000, 0x2000, 0, 0x1000, 0x2000}, {moves.FromTwo, 0x1000, 0x2000, 3, 0x1001, 0x2003}, {moves.FromTwo, 0x1000, 0x2000, 6, 0x1000, 0x2006},
		{moves.Up, 0xFFFE, 0xFFFD, 2, 0x0000, 0xFFFF}, {moves.Up, 0xFFFE, 0xFFFD, 3, 0x0001, 0x0000},
		{moves.Down, 0x0000, 0x0002, 1, 0xFFFF, 0x0001}, {moves.Down, 0x0000, 0x0002, 3, 0xFFFD, 0xFFFF},
		{moves.ToOne, 0xFFFF, 0xFFFF, 1, 0x0000, 0xFFFF},
		{moves.ToTwo, 0xFFFF, 0xFFFF, 1, 0x0000, 0x0000}, {moves.ToTwo, 0xFFFF, 0xFFFF, 2, 0x0001, 0xFFFF},
		{moves.FromTwo, 0xFFFF, 0xFFFF, 1, 0x0000, 0x0000}, {moves.FromTwo, 0xFFFF, 0xFFFF, 2, 0xFFFF, 0x0001},
	} {
		x := to(block(t, c.kind, c.from, c.to, 7), 6*c.n)
		for phase, want := range []uint8{api.Dummy, api.Load, api.Dummy, api.Dummy, api.Store, api.Dummy} {
			if x.Phase() != phase || x.Left() != 7-c.n || x.Done() {
				t.Errorf("%v: phase %d, not %d; %d left", c, x.Phase(), phase, x.Left())
			}
			next(t, x, want, map[uint8]uint16{api.Load: c.load, api.Store: c.store}[want])
			x.Step(1)
		}
		if x.Phase() != 0 || x.Left() != 6-c.n {
			t.Errorf("%v: phase %d, %d left", c, x.Phase(), x.Left())
		}
	}
}

// P31.2 to P31.4: whole blocks of each kind go the ways of layer 26, and tell how far they are; behind the end nothing happens.
func TestStep(t *testing.T) {
	for _, kind := range kinds {
		for _, length := range []uint16{1, 2, 3, 5, 255, 256, 257, 65535, 0} {
			x := block(t, kind, 0xFFF0, 0x0008, length)
			all := moves.All(kind, 0xFFF0, 0x0008, length)
			data := byte(0)
			for n, way := range all {
				for phase, want := range []uint8{api.Dummy, api.Load, api.Dummy, api.Dummy, api.Store, api.Dummy} {
					at := [6]uint16{1: way.From, 4: way.To}[phase]
					if k, a := x.Next(); k != want || a != at || x.Left() != len(all)-n || x.Phase() != phase || x.Done() || x.Data() != data {
						t.Fatalf("kind %d, %d bytes, byte %d, phase %d: %d at %#x, not %d at %#x; %d left, phase %d, %#x, not %#x", kind, length, n, phase, k, a, want, at, x.Left(), x.Phase(), x.Data(), data)
					}
					v := byte(17*n + phase)
					if phase == 1 {
						data = v
					}
					x.Step(v)
				}
			}
			for range 8 {
				stands(t, x, 0, 0, data)
				next(t, x, api.Dummy, 0)
				x.Step(data + 1)
			}
		}
	}
}

// P31.2: only what a Load read is kept.
func TestData(t *testing.T) {
	x := block(t, moves.Up, 0, 0, 2)
	for i, want := range []byte{0, 0, 11, 11, 11, 11, 11, 11, 17, 17, 17, 17, 17, 17, 17} {
		if x.Data() != want {
			t.Errorf("ahead of cycle %d: %d, not %d", i, x.Data(), want)
		}
		x.Step(byte(10 + i))
	}
}

// P31.3: another one is alike, wherever it is made, and both go on apart.
func TestClone(t *testing.T) {
	for n := range 20 {
		x, same := to(block(t, moves.ToTwo, 0x100, 0x200, 3), n), to(block(t, moves.ToTwo, 0x100, 0x200, 3), n)
		other := x.Clone()
		if *other != *same || *x != *same {
			t.Fatalf("behind %d cycles: %v, %v, not %v", n, *other, *x, *same)
		}
		other.Step(7)
		other.Step(8)
		if *x != *same {
			t.Errorf("behind %d cycles: the first one is changed", n)
		}
		x.Step(9)
		same.Step(7)
		same.Step(8)
		if *other != *same {
			t.Errorf("behind %d cycles: the other one is changed", n)
		}
	}
}

// P31.3: nil is done, and nothing happens; likewise what no call made.
func TestNil(t *testing.T) {
	for _, x := range []*burst.Burst{nil, {}} {
		for range 2 {
			stands(t, x, 0, 0, 0)
			next(t, x, api.Dummy, 0)
			x.Step(5)
		}
	}
	var x *burst.Burst
	if x.Clone() != nil {
		t.Error("nil has a clone")
	}
	if other := new(burst.Burst).Clone(); !other.Done() {
		t.Error("what no call made isn't done")
	}
}

// P31.3: six cycles a byte.
func TestCycles(t *testing.T) {
	for length, want := range map[uint16]int{0: 393216, 1: 6, 2: 12, 100: 600, 256: 1536, 32768: 196608, 65535: 393210} {
		if got := burst.Cycles(length); got != want {
			t.Errorf("%d bytes: %d, not %d", length, got, want)
		}
	}
	for length := range 65536 {
		if got, want := burst.Cycles(uint16(length)), 6*moves.Count(uint16(length)); got != want {
			t.Fatalf("%d bytes: %d, not %d", length, got, want)
		}
	}
}

// P31.4: a memory that is read and written as the block asks is what moves.Apply makes of it; overlapping or not.
func TestMoved(t *testing.T) {
	for _, kind := range kinds {
		for _, length := range []uint16{1, 2, 7, 40, 300, 0} {
			for _, at := range [][2]uint16{{0, 1}, {1, 0}, {20, 60}, {60, 20}, {0xFFFA, 3}, {3, 0xFFFA}, {9, 9}} {
				mem := make([]byte, 65536)
				for i := range mem {
					mem[i] = byte(i*i + i/256)
				}
				want, _ := moves.Apply(kind, at[0], at[1], length, mem)
				x, cycles := block(t, kind, at[0], at[1], length), 0
				for ; !x.Done(); cycles++ {
					access, a := x.Next()
					v := byte(0x55)
					switch access {
					case api.Load:
						v = mem[a]
					case api.Store:
						mem[a] = x.Data()
					}
					x.Step(v)
				}
				if string(mem) != string(want) || cycles != burst.Cycles(length) {
					t.Errorf("kind %d, %v, %d bytes: %d cycles, or another memory", kind, at, length, cycles)
				}
			}
		}
	}
}

// P5: two blocks have nothing to do with one another.
func TestApart(t *testing.T) {
	x, y := block(t, moves.Up, 1, 2, 3), block(t, moves.Down, 4, 5, 6)
	to(x, 8)
	y.Step(1)
	next(t, x, api.Dummy, 0)
	stands(t, x, 2, 2, 0xEE)
	next(t, y, api.Load, 4)
	stands(t, y, 6, 1, 0)
}
