package moves_test

import (
	"bytes"
	"math"
	"reflect"
	"testing"

	"gannet/api"
	"gannet/moves"
	"gannet/opcode"
)

// names is the kinds' names, each at its number.
var names = []string{"TII", "TDD", "TIN", "TIA", "TAI"}

// lengths is how many bytes blocks are asked to have.
var lengths = []uint16{0, 1, 2, 3, 4, 5, 7, 8, 16, 17, 255, 256, 257, 65535}

// places is addresses at both ends, and between.
var places = []uint16{0, 1, 2, 255, 0x1FFF, 0x2000, 0x7FFF, 0x8000, 0xFFFD, 0xFFFE, 0xFFFF}

// around is a number modulo 65536, not below 0.
func around(n int) uint16 { return uint16((n%65536 + 65536) % 65536) }

// want is a byte's way, by how far both ends go with each byte and with each odd one.
func want(kind uint8, from, to uint16, n int) moves.Move {
	rules := [5]struct{ from, to, odd, oddTo int }{{1, 1, 0, 0}, {-1, -1, 0, 0}, {1, 0, 0, 0}, {1, 0, 0, 1}, {0, 1, 1, 0}}
	r := rules[kind]
	far, odd := n%65536, n%2
	return moves.Move{From: around(int(from) + r.from*far + r.odd*odd), To: around(int(to) + r.to*far + r.oddTo*odd)}
}

// count is how many bytes are moved.
func count(length uint16) int {
	if length == 0 {
		return 65536
	}
	return int(length)
}

// memory is n bytes, no two of which near each other are alike.
func memory(n int) []byte {
	b := make([]byte, n)
	for i := range b {
		b[i] = byte(i*7 + i/256 + 1)
	}
	return b
}

// P26.1: kinds are numbered from 0 on; each name's kind; the opcodes that are blocks have just these names.
func TestKind(t *testing.T) {
	if got := [5]int{moves.Up, moves.Down, moves.ToOne, moves.ToTwo, moves.FromTwo}; got != [5]int{0, 1, 2, 3, 4} {
		t.Errorf("numbers: %v", got)
	}
	for kind, name := range names {
		if got, ok := moves.Kind(name); got != uint8(kind) || !ok {
			t.Errorf("%s: %d, %v", name, got, ok)
		}
	}
	for b := range 256 {
		op := opcode.Of(byte(b))
		if _, ok := moves.Kind(op.Name); ok != (op.Mode == opcode.Block) {
			t.Errorf("%s of %#x: %v", op.Name, b, ok)
		}
	}
}

// P26.1, P2: names that no kind has.
func TestKindNone(t *testing.T) {
	for _, name := range []string{"", "tii", "Tii", "TI", "TIII", "TII ", " TII", "TIA\x00", "TDI", "TID", "TNI", "T", "LDA", "NOP", "Up", "Down", "ToOne", "ToTwo", "FromTwo", "0", "TÏI"} {
		if got, ok := moves.Kind(name); got != 0 || ok {
			t.Errorf("%q: %d, %v", name, got, ok)
		}
	}
}

// P26.1: a length of 0 is that of all addresses.
func TestCount(t *testing.T) {
	for length := range 65536 {
		want := length
		if length == 0 {
			want = 65536
		}
		if got := moves.Count(uint16(length)); got != want {
			t.Errorf("%d: %d", length, got)
		}
	}
}

// P26.2: ways of each kind, from places at both ends of all addresses, with great n.
func TestAt(t *testing.T) {
	all := []int{0, 1, 2, 3, 4, 5, 100, 255, 256, 32767, 32768, 65534, 65535, 65536, 65537, 131071, 1 << 20, 1<<31 - 1, 1 << 40, 1<<40 + 1, math.MaxInt - 1, math.MaxInt}
	for kind := range uint8(5) {
		for _, from := range places {
			for _, to := range places {
				for _, n := range all {
					if got, ok := moves.At(kind, from, to, n); got != want(kind, from, to, n) || !ok {
						t.Errorf("%s, %#x, %#x, %d: %v, %v", names[kind], from, to, n, got, ok)
					}
				}
			}
		}
	}
}

// P26.2: ways that are written here.
func TestAtByHand(t *testing.T) {
	for _, c := range []struct {
		kind     uint8
		from, to uint16
		n        int
		want     moves.Move
	}{
		{moves.Up, 5, 9, 0, moves.Move{From: 5, To: 9}},
		{moves.Up, 5, 9, 3, moves.Move{From: 8, To: 12}},
		{moves.Up, 0xFFFF, 0xFFFE, 2, moves.Move{From: 1, To: 0}},
		{moves.Up, 5, 9, 65537, moves.Move{From: 6, To: 10}},
		{moves.Down, 5, 9, 0, moves.Move{From: 5, To: 9}},
		{moves.Down, 5, 9, 3, moves.Move{From: 2, To: 6}},
		{moves.Down, 0, 1, 2, moves.Move{From: 0xFFFE, To: 0xFFFF}},
		{moves.Down, 5, 9, 65537, moves.Move{From: 4, To: 8}},
		{moves.ToOne, 5, 9, 0, moves.Move{From: 5, To: 9}},
		{moves.ToOne, 5, 9, 3, moves.Move{From: 8, To: 9}},
		{moves.ToOne, 0xFFFF, 0xFFFF, 1, moves.Move{From: 0, To: 0xFFFF}},
		{moves.ToTwo, 5, 9, 0, moves.Move{From: 5, To: 9}},
		{moves.ToTwo, 5, 9, 1, moves.Move{From: 6, To: 10}},
		{moves.ToTwo, 5, 9, 2, moves.Move{From: 7, To: 9}},
		{moves.ToTwo, 0xFFFF, 0xFFFF, 3, moves.Move{From: 2, To: 0}},
		{moves.FromTwo, 5, 9, 0, moves.Move{From: 5, To: 9}},
		{moves.FromTwo, 5, 9, 1, moves.Move{From: 6, To: 10}},
		{moves.FromTwo, 5, 9, 2, moves.Move{From: 5, To: 11}},
		{moves.FromTwo, 0xFFFF, 0xFFFF, 3, moves.Move{From: 0, To: 2}},
	} {
		if got, ok := moves.At(c.kind, c.from, c.to, c.n); got != c.want || !ok {
			t.Errorf("%s, %#x, %#x, %d: %v, %v", names[c.kind], c.from, c.to, c.n, got, ok)
		}
	}
}

// P26.2, P26.4, P2: kinds that there are none, and n below 0.
func TestNone(t *testing.T) {
	for kind := range 256 {
		for _, n := range []int{math.MinInt, -65536, -2, -1, 0, 1, math.MaxInt} {
			got, ok := moves.At(uint8(kind), 5, 9, n)
			if there := kind < 5 && n >= 0; ok != there || !there && got != (moves.Move{}) {
				t.Errorf("At of %d, %d: %v, %v", kind, n, got, ok)
			}
		}
		if kind < 5 {
			continue
		}
		for _, length := range []uint16{0, 1, 3} {
			if got := moves.All(uint8(kind), 5, 9, length); len(got) != 0 {
				t.Errorf("All of %d: %v", kind, got)
			}
			if from, to, ok := moves.Ends(uint8(kind), 5, 9, length); from != 0 || to != 0 || ok {
				t.Errorf("Ends of %d: %d, %d, %v", kind, from, to, ok)
			}
		}
	}
}

// P26.2: all ways, one behind the other, of each kind and of a length of 0, too.
func TestAll(t *testing.T) {
	for kind := range uint8(5) {
		for _, length := range lengths {
			for _, at := range [][2]uint16{{5, 9}, {0, 0xFFFF}, {0xFFFE, 1}} {
				got := moves.All(kind, at[0], at[1], length)
				if len(got) != count(length) {
					t.Fatalf("%s, %d: %d ways", names[kind], length, len(got))
				}
				for n, way := range got {
					if way != want(kind, at[0], at[1], n) {
						t.Fatalf("%s, %#x, %d: way %d is %v", names[kind], at, length, n, way)
					}
				}
			}
		}
	}
}

// P26.2: rows that are written here.
func TestAllByHand(t *testing.T) {
	for _, c := range []struct {
		kind             uint8
		from, to, length uint16
		want             []moves.Move
	}{
		{moves.Up, 0xFFFF, 9, 2, []moves.Move{{From: 0xFFFF, To: 9}, {From: 0, To: 10}}},
		{moves.Down, 1, 0, 3, []moves.Move{{From: 1, To: 0}, {From: 0, To: 0xFFFF}, {From: 0xFFFF, To: 0xFFFE}}},
		{moves.ToOne, 5, 9, 3, []moves.Move{{From: 5, To: 9}, {From: 6, To: 9}, {From: 7, To: 9}}},
		{moves.FromTwo, 5, 9, 4, []moves.Move{{From: 5, To: 9}, {From: 6, To: 10}, {From: 5, To: 11}, {From: 6, To: 12}}},
		{moves.ToTwo, 5, 9, 1, []moves.Move{{From: 5, To: 9}}},
	} {
		if got := moves.All(c.kind, c.from, c.to, c.length); !reflect.DeepEqual(got, c.want) {
			t.Errorf("%s, %#x, %#x, %d: %v", names[c.kind], c.from, c.to, c.length, got)
		}
	}
}

// applied is a memory behind a block, byte by byte.
func applied(kind uint8, from, to, length uint16, mem []byte) []byte {
	out := bytes.Clone(mem)
	for n := range count(length) {
		way := want(kind, from, to, n)
		out[int(way.To)%len(mem)] = out[int(way.From)%len(mem)]
	}
	return out
}

// P26.3: blocks of each kind in memories of many sizes, overlapping ahead and behind, and around the end of mem and of all addresses.
func TestApply(t *testing.T) {
	for kind := range uint8(5) {
		for _, size := range []int{1, 2, 3, 5, 16, 100, 1000, 65535, 65536} {
			mem := memory(size)
			for _, length := range []uint16{0, 1, 2, 3, 17} {
				for _, at := range [][2]uint16{{0, 0}, {0, 1}, {1, 0}, {3, 5}, {5, 3}, {20, 4}, {4, 20}, {0xFFFE, 1}, {1, 0xFFFE}, {99, 2}} {
					got, e := moves.Apply(kind, at[0], at[1], length, mem)
					if e != api.OK || !bytes.Equal(got, applied(kind, at[0], at[1], length, mem)) {
						t.Errorf("%s, %#x, %d, of %d bytes: %d", names[kind], at, length, size, e)
					}
				}
			}
			if !bytes.Equal(mem, memory(size)) {
				t.Fatalf("%s, of %d bytes: what was handed in became another one", names[kind], size)
			}
		}
	}
}

// P26.3: memories that are written here.
func TestApplyByHand(t *testing.T) {
	for _, c := range []struct {
		kind             uint8
		from, to, length uint16
		mem, want        []byte
	}{
		{moves.Up, 0, 4, 3, []byte{1, 2, 3, 4, 5, 6, 7, 8}, []byte{1, 2, 3, 4, 1, 2, 3, 8}},
		{moves.Up, 0, 2, 4, []byte{1, 2, 3, 4, 5, 6, 7, 8}, []byte{1, 2, 1, 2, 1, 2, 7, 8}}, // it runs into itself
		{moves.Up, 2, 0, 4, []byte{1, 2, 3, 4, 5, 6, 7, 8}, []byte{3, 4, 5, 6, 5, 6, 7, 8}}, // it doesn't, though it overlaps
		{moves.Up, 6, 0, 4, []byte{1, 2, 3, 4, 5, 6, 7, 8}, []byte{7, 8, 7, 8, 5, 6, 7, 8}}, // around the end of mem
		{moves.Up, 0, 7, 2, []byte{1, 2, 3, 4, 5, 6, 7, 8}, []byte{2, 2, 3, 4, 5, 6, 7, 1}},
		{moves.Down, 2, 6, 3, []byte{1, 2, 3, 4, 5, 6, 7, 8}, []byte{1, 2, 3, 4, 1, 2, 3, 8}},
		{moves.Down, 5, 3, 4, []byte{1, 2, 3, 4, 5, 6, 7, 8}, []byte{5, 6, 5, 6, 5, 6, 7, 8}}, // it runs into itself
		{moves.Down, 3, 5, 4, []byte{1, 2, 3, 4, 5, 6, 7, 8}, []byte{1, 2, 1, 2, 3, 4, 7, 8}},
		{moves.Down, 1, 5, 3, []byte{1, 2, 3, 4, 5, 6, 7, 8}, []byte{1, 2, 3, 8, 1, 2, 7, 8}}, // around the end of mem
		{moves.ToOne, 1, 0, 4, []byte{1, 2, 3, 4, 5, 6}, []byte{5, 2, 3, 4, 5, 6}},
		{moves.ToOne, 0, 2, 4, []byte{1, 2, 3, 4, 5, 6}, []byte{1, 2, 4, 4, 5, 6}},
		{moves.ToTwo, 2, 0, 4, []byte{1, 2, 3, 4, 5, 6}, []byte{5, 6, 3, 4, 5, 6}},
		{moves.ToTwo, 2, 0, 3, []byte{1, 2, 3, 4, 5, 6}, []byte{5, 4, 3, 4, 5, 6}},
		{moves.ToTwo, 0, 5, 2, []byte{1, 2, 3, 4, 5, 6}, []byte{2, 2, 3, 4, 5, 1}}, // the second of two is around the end
		{moves.FromTwo, 0, 2, 3, []byte{1, 2, 3, 4, 5, 6}, []byte{1, 2, 1, 2, 1, 6}},
		{moves.FromTwo, 5, 1, 4, []byte{1, 2, 3, 4, 5, 6}, []byte{1, 6, 1, 6, 1, 6}},
		{moves.FromTwo, 0, 1, 3, []byte{1, 2, 3, 4, 5, 6}, []byte{1, 1, 1, 1, 5, 6}}, // it writes what it comes from
		{moves.Up, 0xFFFF, 0, 2, []byte{1, 2, 3}, []byte{1, 1, 3}},                   // 65535 modulo 3 is 0, and behind it comes 0
		{moves.Down, 0, 1, 2, []byte{1, 2, 3, 4, 5}, []byte{1, 1, 3, 4, 5}},          // behind 0 comes 65535, modulo 5 that is 0
		{moves.Up, 3, 4, 5, []byte{9}, []byte{9}},
		{moves.Up, 1, 0, 0, []byte{1, 2}, []byte{2, 2}},
	} {
		mem := bytes.Clone(c.mem)
		if got, e := moves.Apply(c.kind, c.from, c.to, c.length, mem); !bytes.Equal(got, c.want) || e != api.OK {
			t.Errorf("%s, %#x, %#x, %d of %v: %v, %d", names[c.kind], c.from, c.to, c.length, c.mem, got, e)
		}
		if !bytes.Equal(mem, c.mem) {
			t.Errorf("%s, %#x, %#x, %d of %v: what was handed in became %v", names[c.kind], c.from, c.to, c.length, c.mem, mem)
		}
	}
}

// P26.3, P2: memories that are too small and too great, kinds that there are none; the kind is looked at first.
func TestApplyWrong(t *testing.T) {
	for kind := range 256 {
		for _, size := range []int{-1, 0, 1, 65536, 65537} {
			var mem []byte
			if size >= 0 {
				mem = make([]byte, size)
			}
			want := api.OK
			if kind > 4 {
				want = api.ErrKind
			} else if size < 1 || size > 65536 {
				want = api.ErrLong
			}
			got, e := moves.Apply(uint8(kind), 0, 1, 1, mem)
			if e != want || e != api.OK && len(got) != 0 || e == api.OK && len(got) != size {
				t.Errorf("%d, of %d bytes: %d bytes, %d", kind, size, len(got), e)
			}
		}
	}
}

// P26.3: a memory of all addresses, moved as a whole by one place.
func TestApplyWhole(t *testing.T) {
	mem := memory(65536)
	got, e := moves.Apply(moves.Up, 1, 0, 0, mem)
	if e != api.OK || !bytes.Equal(got[:65535], mem[1:]) || got[65535] != mem[1] { // what came to place 0 is moved on to the last one
		t.Errorf("up: %d", e)
	}
	got, e = moves.Apply(moves.Down, 0xFFFE, 0xFFFF, 0, mem)
	if e != api.OK || !bytes.Equal(got[1:], mem[:65535]) || got[0] != mem[65534] {
		t.Errorf("down: %d", e)
	}
}

// P26.4: where both go on is the way of the byte behind the last one.
func TestEnds(t *testing.T) {
	for kind := range uint8(5) {
		for _, length := range lengths {
			for _, from := range places {
				for _, to := range places {
					way := want(kind, from, to, count(length))
					if gotFrom, gotTo, ok := moves.Ends(kind, from, to, length); gotFrom != way.From || gotTo != way.To || !ok {
						t.Errorf("%s, %#x, %#x, %d: %#x, %#x, %v", names[kind], from, to, length, gotFrom, gotTo, ok)
					}
				}
			}
		}
	}
}

// P26.4: ends that are written here.
func TestEndsByHand(t *testing.T) {
	for _, c := range []struct {
		kind             uint8
		from, to, length uint16
		wantFrom, wantTo uint16
	}{
		{moves.Up, 5, 9, 3, 8, 12}, {moves.Up, 5, 9, 0, 5, 9}, {moves.Up, 0xFFFF, 0, 1, 0, 1}, {moves.Up, 5, 9, 65535, 4, 8},
		{moves.Down, 5, 9, 3, 2, 6}, {moves.Down, 5, 9, 0, 5, 9}, {moves.Down, 0, 1, 2, 0xFFFE, 0xFFFF}, {moves.Down, 5, 9, 65535, 6, 10},
		{moves.ToOne, 5, 9, 3, 8, 9}, {moves.ToOne, 5, 9, 0, 5, 9},
		{moves.ToTwo, 5, 9, 3, 8, 10}, {moves.ToTwo, 5, 9, 4, 9, 9}, {moves.ToTwo, 5, 9, 0, 5, 9}, {moves.ToTwo, 5, 0xFFFF, 1, 6, 0},
		{moves.FromTwo, 5, 9, 3, 6, 12}, {moves.FromTwo, 5, 9, 4, 5, 13}, {moves.FromTwo, 5, 9, 0, 5, 9}, {moves.FromTwo, 0xFFFF, 9, 65535, 0, 8},
	} {
		if from, to, ok := moves.Ends(c.kind, c.from, c.to, c.length); from != c.wantFrom || to != c.wantTo || !ok {
			t.Errorf("%s, %#x, %#x, %d: %#x, %#x, %v", names[c.kind], c.from, c.to, c.length, from, to, ok)
		}
	}
}

// P26.5: a block that isn't written ahead of its being moved is there as it was, and all else stays.
func TestThere(t *testing.T) {
	const size = 40
	mem := memory(size)
	for from := range uint16(size) {
		for to := range uint16(size) {
			for length := uint16(1); length <= 8; length++ {
				for _, kind := range []uint8{moves.Up, moves.Down} {
					there(t, kind, from, to, length, mem)
				}
			}
		}
	}
}

// there asks a block that lies in mem as a whole, unless it runs into itself.
func there(t *testing.T, kind uint8, from, to, length uint16, mem []byte) {
	t.Helper()
	low, lowTo := from, to
	if kind == moves.Down {
		if from+1 < length || to+1 < length {
			return
		}
		low, lowTo = from+1-length, to+1-length
	}
	if int(low+length) > len(mem) || int(lowTo+length) > len(mem) {
		return
	}
	if kind == moves.Up && from < to && to < from+length || kind == moves.Down && to < from && from < to+length {
		return
	}
	want := bytes.Clone(mem)
	copy(want[lowTo:lowTo+length], mem[low:low+length])
	if got, e := moves.Apply(kind, from, to, length, mem); !bytes.Equal(got, want) || e != api.OK {
		t.Errorf("%s, %d, %d, %d: %v, %d", names[kind], from, to, length, got, e)
	}
}

// P26.5: a block in two parts, the second one from where the first one ends, is as in one; of such as take turns an even part goes ahead.
func TestParts(t *testing.T) {
	for kind := range uint8(5) {
		for _, size := range []int{1, 7, 64, 65536} {
			mem := memory(size)
			for _, at := range [][2]uint16{{0, 3}, {3, 0}, {10, 30}, {0xFFFE, 2}, {2, 0xFFFD}} {
				whole := uint16(9)
				for first := uint16(1); first < whole; first++ {
					if kind >= moves.ToTwo && first%2 == 1 {
						continue
					}
					parts(t, kind, at, first, whole-first, mem)
				}
			}
		}
	}
}

// parts asks a block in two parts, in the memory and way by way.
func parts(t *testing.T, kind uint8, at [2]uint16, first, second uint16, mem []byte) {
	t.Helper()
	one, _ := moves.Apply(kind, at[0], at[1], first+second, mem)
	half, _ := moves.Apply(kind, at[0], at[1], first, mem)
	from, to, _ := moves.Ends(kind, at[0], at[1], first)
	two, e := moves.Apply(kind, from, to, second, half)
	if e != api.OK || !bytes.Equal(one, two) {
		t.Errorf("%s, %#x, %d and %d, of %d bytes: %d", names[kind], at, first, second, len(mem), e)
	}
	ways := append(moves.All(kind, at[0], at[1], first), moves.All(kind, from, to, second)...)
	if whole := moves.All(kind, at[0], at[1], first+second); !reflect.DeepEqual(ways, whole) {
		t.Errorf("%s, %#x, %d and %d: %v, not %v", names[kind], at, first, second, ways, whole)
	}
}

// P3: mem stays as it is, spare room behind it, too, which isn't looked at; what is answered is the caller's.
func TestStays(t *testing.T) {
	room := []byte{1, 2, 3, 4, 5, 6, 7, 8}
	mem := room[:4]
	got, e := moves.Apply(moves.Up, 2, 0, 3, mem)
	if e != api.OK || !bytes.Equal(got, []byte{3, 4, 3, 4}) {
		t.Errorf("with spare room: %v, %d", got, e)
	}
	for i := range got {
		got[i] = 99
	}
	_ = append(got, 99)
	if !bytes.Equal(room, []byte{1, 2, 3, 4, 5, 6, 7, 8}) {
		t.Errorf("what was handed in became %v", room)
	}
	if got, e := moves.Apply(moves.Up, 0, 0, 1, room[:0]); len(got) != 0 || e != api.ErrLong {
		t.Errorf("spare room alone: %v, %d", got, e)
	}
	one, two := moves.All(moves.Up, 5, 9, 3), moves.All(moves.Up, 5, 9, 3)
	for i := range one {
		one[i] = moves.Move{}
	}
	_ = append(one, moves.Move{From: 7})
	if want := []moves.Move{{From: 5, To: 9}, {From: 6, To: 10}, {From: 7, To: 11}}; !reflect.DeepEqual(two, want) || !reflect.DeepEqual(moves.All(moves.Up, 5, 9, 3), want) {
		t.Errorf("answers aren't apart: %v", two)
	}
}

// The chapter's examples.
func TestExamples(t *testing.T) {
	if got := moves.All(moves.ToTwo, 5, 9, 3); !reflect.DeepEqual(got, []moves.Move{{From: 5, To: 9}, {From: 6, To: 10}, {From: 7, To: 9}}) {
		t.Errorf("All: %v", got)
	}
	if got, e := moves.Apply(moves.Up, 0, 1, 3, []byte{7, 0, 0, 0}); !bytes.Equal(got, []byte{7, 7, 7, 7}) || e != api.OK {
		t.Errorf("Apply: %v, %d", got, e)
	}
}
