package ram_test

import (
	"bytes"
	"math"
	"slices"
	"testing"

	"gannet/api"
	"gannet/cart"
	"gannet/ram"
)

const (
	size = 8192
	wide = 64
)

// edges are places at which blocks begin and end, and those of 8192 and above among them.
var edges = []uint16{0, 1, 62, 63, 64, 65, 127, 128, 4095, 4096, 8127, 8128, 8190, 8191, 8192, 8193, 8255, 8256, 16383, 16384, 32767, 32768, 57344, 65534, 65535}

// counted is so many bytes, none of which is 0.
func counted(n int) []byte {
	b := make([]byte, n)
	for i := range b {
		b[i] = byte(1 + i%255)
	}
	return b
}

// laid is 8192 bytes of 0, with bytes from places on.
func laid(l map[int][]byte) []byte {
	page := make([]byte, size)
	for at, b := range l {
		copy(page[at:], b)
	}
	return page
}

// pages are bytes that memory may have: 0 alone, and of no 0, with bytes at both ends of all, and at those of blocks.
func pages() map[string][]byte {
	second := make([]byte, size)
	for i := 1; i < size; i += 2 {
		second[i] = byte(i/2)%255 + 1
	}
	return map[string][]byte{
		"zero":         make([]byte, size),
		"full":         counted(size),
		"first":        laid(map[int][]byte{0: {1}}),
		"last":         laid(map[int][]byte{8191: {255}}),
		"ends":         laid(map[int][]byte{0: {1}, 8191: {2}}),
		"end blocks":   laid(map[int][]byte{63: {1}, 8128: {2}}),
		"middle":       laid(map[int][]byte{100: {1, 0, 2, 3, 0, 0, 255, 0, 4, 5, 6}}),
		"across":       laid(map[int][]byte{126: {1, 2, 3, 4}}),
		"whole block":  laid(map[int][]byte{128: counted(64)}),
		"three blocks": laid(map[int][]byte{127: counted(66)}),
		"but one":      laid(map[int][]byte{0: counted(4000), 4001: counted(4191)}),
		"second":       second,
		"each block":   slices.Repeat(append([]byte{7}, make([]byte, wide-1)...), size/wide),
	}
}

// written is memory to which bytes are written, place by place.
func written(page []byte) *ram.Ram {
	m := ram.New()
	for at, b := range page {
		m.Write(uint16(at), b)
	}
	return m
}

// whole is all bytes of memory, place by place.
func whole(m *ram.Ram) []byte {
	page := make([]byte, size)
	for at := range page {
		page[at] = m.Read(uint16(at))
	}
	return page
}

// runs is the pieces of bytes, byte by byte.
func runs(page []byte) []api.Piece {
	var l []api.Piece
	for i, b := range page {
		switch {
		case b == 0:
		case i > 0 && page[i-1] != 0:
			l[len(l)-1].Bytes = append(l[len(l)-1].Bytes, b)
		default:
			l = append(l, api.Piece{At: i, Bytes: []byte{b}})
		}
	}
	return l
}

// blocks is how many rows of 64 bytes have some that isn't 0.
func blocks(page []byte) int {
	sum := 0
	for row := range slices.Chunk(page, wide) {
		if slices.ContainsFunc(row, func(b byte) bool { return b != 0 }) {
			sum++
		}
	}
	return sum
}

// alike tells whether two lists of pieces are alike.
func alike(a, b []api.Piece) bool {
	return slices.EqualFunc(a, b, func(p, q api.Piece) bool { return p.At == q.At && bytes.Equal(p.Bytes, q.Bytes) })
}

// is tells whether all that is told of memory is that of bytes.
func is(m *ram.Ram, page []byte) bool {
	return bytes.Equal(whole(m), page) && alike(m.Pieces(), runs(page)) && m.Blocks() == blocks(page)
}

// P5.1: new memory is all 0.
func TestNew(t *testing.T) {
	m := ram.New()
	for at := range 1 << 16 {
		if m.Read(uint16(at)) != 0 {
			t.Fatalf("new memory at %#x", at)
		}
	}
	if !is(m, make([]byte, size)) || len(m.Pieces()) != 0 || m.Blocks() != 0 {
		t.Error("new memory isn't all 0")
	}
	if m == ram.New() {
		t.Error("two new memories are one")
	}
}

// P5.1: a byte is written and read at its place modulo 8192; all others stay (P5.4).
func TestReadAndWrite(t *testing.T) {
	for _, first := range []string{"zero", "full", "middle"} {
		for _, at := range edges {
			for _, b := range []byte{0, 1, 128, 255} {
				page := pages()[first]
				m := written(page)
				m.Write(at, b)
				page[at%size] = b
				if !is(m, page) {
					t.Errorf("%s: Write(%#x, %d)", first, at, b)
				}
				for high := range 8 {
					if got := m.Read(at%size + uint16(high*size)); got != b {
						t.Errorf("%s: written at %#x, read %d pages on: %d", first, at, high, got)
					}
				}
			}
		}
	}
}

// P5.1: pieces are laid in, one behind the other: a later one lies over those ahead of it, its 0 too.
func TestOf(t *testing.T) {
	l := []api.Piece{
		{At: 0, Bytes: []byte{1, 2, 3, 4, 5}},
		{At: 2, Bytes: []byte{0, 9}},
		{At: 3, Bytes: []byte{8, 8, 8}},
		{At: size - 3, Bytes: []byte{6, 7, 8}},
		{At: size},
		{At: size, Bytes: []byte{}},
		{At: 63, Bytes: []byte{1, 1}},
		{At: 100, Bytes: []byte{1, 2}},
		{At: 100, Bytes: []byte{0, 0}},
		{At: 1, Bytes: nil},
	}
	m, f := ram.Of(l)
	if f != (api.Fault{}) || !is(m, laid(map[int][]byte{0: {1, 2, 0, 8, 8, 8}, 63: {1, 1}, size - 3: {6, 7, 8}})) {
		t.Errorf("pieces: %v, %v", m.Pieces(), f)
	}
	slices.Reverse(l)
	m, f = ram.Of(l)
	if f != (api.Fault{}) || !is(m, laid(map[int][]byte{0: {1, 2, 3, 4, 5, 8}, 63: {1, 1}, 100: {1, 2}, size - 3: {6, 7, 8}})) {
		t.Errorf("pieces, the other way round: %v, %v", m.Pieces(), f)
	}
}

// P5.1: of no pieces, and of empty ones, it is all 0; of one as long as memory it is that.
func TestOfEnds(t *testing.T) {
	for _, l := range [][]api.Piece{nil, {}, {{}}, {{At: size}}, {{At: 5, Bytes: []byte{}}, {At: size, Bytes: []byte{}}}} {
		if m, f := ram.Of(l); m == nil || f != (api.Fault{}) || !is(m, make([]byte, size)) {
			t.Errorf("Of(%v): %v", l, f)
		}
	}
	for name, page := range pages() {
		if m, f := ram.Of([]api.Piece{{At: 0, Bytes: page}}); f != (api.Fault{}) || !is(m, page) {
			t.Errorf("%s: %v", name, f)
		}
	}
	for n := range wide + 2 {
		m, f := ram.Of([]api.Piece{{At: size - n, Bytes: counted(n)}})
		if f != (api.Fault{}) || !is(m, laid(map[int][]byte{size - n: counted(n)})) {
			t.Errorf("a piece of %d bytes that ends at 8192: %v", n, f)
		}
	}
}

// P5.1: the first piece that doesn't lie within memory is told by its number; there is no memory then (P2).
func TestOfRange(t *testing.T) {
	good := []api.Piece{{At: 0, Bytes: []byte{1}}, {At: size}, {At: size - 1, Bytes: []byte{1}}}
	for _, bad := range []api.Piece{
		{At: size, Bytes: []byte{1}},
		{At: size, Bytes: []byte{0}},
		{At: size - 1, Bytes: []byte{1, 2}},
		{At: size - 64, Bytes: counted(65)},
		{At: size + 1},
		{At: size + 1, Bytes: []byte{}},
		{At: size + 1, Bytes: []byte{1}},
		{At: -1},
		{At: -1, Bytes: []byte{1}},
		{At: -1, Bytes: []byte{1, 2}},
		{At: 0, Bytes: make([]byte, size+1)},
		{At: 1, Bytes: counted(size)},
		{At: 65536, Bytes: []byte{1}},
		{At: math.MaxInt},
		{At: math.MaxInt, Bytes: []byte{1}},
		{At: math.MinInt},
		{At: math.MinInt, Bytes: []byte{1, 2, 3}},
	} {
		for n := range len(good) + 1 {
			l := slices.Insert(slices.Clone(good), n, bad)
			l = append(l, api.Piece{At: -5})
			if m, f := ram.Of(l); m != nil || f != (api.Fault{Errno: api.ErrRange, At: n}) {
				t.Errorf("a piece at %d of %d bytes, number %d: %v", bad.At, len(bad.Bytes), n, f)
			}
		}
	}
}

// P5.2: as few pieces as may be, rising, none empty, of all bytes that aren't 0, and no others; and how many blocks aren't all 0.
func TestPiecesAndBlocks(t *testing.T) {
	for name, page := range pages() {
		if m := written(page); !alike(m.Pieces(), runs(page)) || m.Blocks() != blocks(page) {
			t.Errorf("%s: %d pieces, %d blocks", name, len(m.Pieces()), m.Blocks())
		}
	}
	for name, want := range map[string][2]int{
		"zero": {0, 0}, "full": {1, 128}, "first": {1, 1}, "last": {1, 1}, "ends": {2, 2}, "end blocks": {2, 2},
		"middle": {4, 1}, "across": {1, 2}, "whole block": {1, 1}, "three blocks": {1, 3}, "but one": {2, 128},
		"second": {4096, 128}, "each block": {128, 128},
	} {
		m := written(pages()[name])
		if got := [2]int{len(m.Pieces()), m.Blocks()}; got != want {
			t.Errorf("%s: pieces and blocks: %v", name, got)
		}
	}
}

// P5.2: one byte anywhere is one piece, and one block; made 0 again it is none.
func TestOneByte(t *testing.T) {
	m := ram.New()
	for at := range size {
		m.Write(uint16(at), byte(at%255+1))
		if m.Blocks() != 1 || !alike(m.Pieces(), []api.Piece{{At: at, Bytes: []byte{byte(at%255 + 1)}}}) {
			t.Fatalf("a byte at %d: %v, %d blocks", at, m.Pieces(), m.Blocks())
		}
		m.Write(uint16(at+size), 0)
		if m.Blocks() != 0 || len(m.Pieces()) != 0 || !ram.Same(m, nil) {
			t.Fatalf("a byte at %d that is 0 again: %v, %d blocks", at, m.Pieces(), m.Blocks())
		}
	}
}

// P5.2: a block is gone just with the last of its bytes; 0 where 0 is makes none.
func TestZeroAgain(t *testing.T) {
	m := written(laid(map[int][]byte{128: {1, 2, 3}, 191: {4}, 192: {5}}))
	for i, at := range []uint16{129, 191, 128} {
		m.Write(at, 0)
		if m.Blocks() != 2 {
			t.Errorf("%d bytes are 0 again: %d blocks", i+1, m.Blocks())
		}
	}
	m.Write(130, 0)
	if !is(m, laid(map[int][]byte{192: {5}})) || m.Blocks() != 1 {
		t.Errorf("the last byte of a block is 0 again: %d blocks", m.Blocks())
	}
	for at := range 1 << 16 {
		if at%size != 192 {
			m.Write(uint16(at), 0)
		}
	}
	if !is(m, laid(map[int][]byte{192: {5}})) || m.Blocks() != 1 {
		t.Errorf("0 where 0 is: %d blocks", m.Blocks())
	}
	full := written(counted(size))
	for at := range uint16(size) {
		full.Write(at, 0)
		if want := (size - 1 - int(at) + wide - 1) / wide; full.Blocks() != want {
			t.Fatalf("0 up to %d: %d blocks", at, full.Blocks())
		}
	}
}

// P5.2, P5.4: memory is made of its pieces again.
func TestMadeAgain(t *testing.T) {
	for name, page := range pages() {
		m := written(page)
		again, f := ram.Of(m.Pieces())
		if f != (api.Fault{}) || !ram.Same(m, again) || !is(again, page) {
			t.Errorf("%s: %v", name, f)
		}
	}
}

// P5.3, P5: a clone is alike, another one, and apart, whichever of both is written to.
func TestClone(t *testing.T) {
	for name, page := range pages() {
		m := written(page)
		c := m.Clone()
		if c == nil || c == m || !is(c, page) || !ram.Same(m, c) {
			t.Fatalf("%s: a clone isn't alike, or isn't another one", name)
		}
		for _, at := range edges {
			c.Write(at, ^m.Read(at))
		}
		if !is(m, page) {
			t.Errorf("%s: memory is written to with its clone", name)
		}
		c = m.Clone()
		for _, at := range edges {
			m.Write(at, 0)
			m.Write(at+1, 77)
		}
		if !is(c, page) {
			t.Errorf("%s: a clone is written to with the first one", name)
		}
	}
}

// P5.3: a clone of a clone stays, as blocks of the others come and go.
func TestCloneOfClone(t *testing.T) {
	m := written(laid(map[int][]byte{0: {1}, 64: {2}}))
	c := m.Clone()
	d := c.Clone()
	m.Write(0, 0)
	c.Write(64, 0)
	d.Write(128, 3)
	if !is(m, laid(map[int][]byte{64: {2}})) || !is(c, laid(map[int][]byte{0: {1}})) || !is(d, laid(map[int][]byte{0: {1}, 64: {2}, 128: {3}})) {
		t.Error("three memories aren't apart")
	}
}

// P5.3: two memories are alike just if all their bytes are; else the first other place is told.
func TestSameAndOther(t *testing.T) {
	for one, a := range pages() {
		for two, b := range pages() {
			want := -1
			for at := range a {
				if a[at] != b[at] {
					want = at
					break
				}
			}
			m, n := written(a), written(b)
			if got := ram.Other(m, n); got != want || ram.Same(m, n) != (want < 0) {
				t.Errorf("%s and %s: %d, not %d", one, two, got, want)
			}
		}
	}
}

// P5.3: two memories that differ at one place, or at two, anywhere: the first one, whichever of both is named first.
func TestOtherPlaces(t *testing.T) {
	m := written(pages()["middle"])
	for at := range size {
		n := m.Clone()
		n.Write(uint16(at), m.Read(uint16(at))+1)
		if ram.Other(m, n) != at || ram.Other(n, m) != at || ram.Same(m, n) {
			t.Fatalf("other at %d: %d", at, ram.Other(m, n))
		}
		n.Write(8191, 9)
		if got := ram.Other(n, m); got != at {
			t.Fatalf("other at %d and 8191: %d", at, got)
		}
		n.Write(8191, 0)
		n.Write(uint16(at), m.Read(uint16(at)))
		if ram.Other(m, n) != -1 || ram.Other(n, m) != -1 || !ram.Same(m, n) {
			t.Fatalf("alike again at %d: %d", at, ram.Other(m, n))
		}
	}
	if !ram.Same(m, m) || ram.Other(m, m) != -1 {
		t.Error("memory isn't as itself")
	}
}

// P5.3: it doesn't matter by what way two memories came to be alike.
func TestSameByOtherWays(t *testing.T) {
	a, _ := ram.Of([]api.Piece{{At: 10, Bytes: []byte{1, 2}}})
	b := written(counted(size))
	for at := range size {
		b.Write(uint16(at), 0)
	}
	b.Write(11, 2)
	b.Write(8192+10, 1)
	if !ram.Same(a, b) || ram.Other(a, b) != -1 {
		t.Errorf("memories that came to the same: %d", ram.Other(a, b))
	}
}

// P5.3, P1: nil memory has all 0, and isn't written to.
func TestNil(t *testing.T) {
	var m *ram.Ram
	for _, at := range edges {
		m.Write(at, 5)
	}
	if !is(m, make([]byte, size)) || len(m.Pieces()) != 0 || m.Blocks() != 0 || m.Clone() != nil {
		t.Error("nil memory")
	}
	if !ram.Same(nil, nil) || ram.Other(nil, nil) != -1 || !ram.Same(nil, ram.New()) || ram.Other(ram.New(), nil) != -1 {
		t.Error("nil memory isn't as new memory")
	}
	for _, at := range []uint16{0, 63, 64, 8191} {
		n := ram.New()
		n.Write(at, 1)
		if ram.Same(nil, n) || ram.Same(n, nil) || ram.Other(nil, n) != int(at) || ram.Other(n, nil) != int(at) {
			t.Errorf("nil memory, and a byte at %d", at)
		}
	}
}

// P1: memory that no call made is as new memory.
func TestUnmade(t *testing.T) {
	zero := make([]byte, size)
	m := &ram.Ram{}
	if !is(m, zero) || !ram.Same(m, ram.New()) || !ram.Same(nil, m) || ram.Other(m, nil) != -1 {
		t.Error("memory that no call made isn't all 0")
	}
	c := m.Clone()
	if c == nil || c == m || !is(c, zero) {
		t.Error("a clone of memory that no call made")
	}
	new(ram.Ram).Write(8191, 0)
	m.Write(8193, 7)
	if !is(m, laid(map[int][]byte{1: {7}})) || ram.Other(m, c) != 1 {
		t.Error("memory that no call made, written to")
	}
	c.Write(2, 8)
	if !is(c, laid(map[int][]byte{2: {8}})) || !is(m, laid(map[int][]byte{1: {7}})) {
		t.Error("a clone of memory that no call made, written to")
	}
}

// P5.4: a byte is what was written there last, through many writes; all others stay.
func TestWrittenLast(t *testing.T) {
	m, page, last := ram.New(), make([]byte, size), uint32(1)
	for n := range 60000 {
		last = last*1664525 + 1013904223
		// A few blocks alone, and many a 0, so that blocks come and go.
		at, b := uint16(last>>16)&0xE0C7, byte(last>>8)
		if last>>30 != 0 {
			b = 0
		}
		m.Write(at, b)
		page[at%size] = b
		if m.Read(at) != b {
			t.Fatalf("write %d, at %#x: %d", n, at, m.Read(at))
		}
		if n%200 == 0 && !is(m, page) {
			t.Fatalf("behind %d writes", n+1)
		}
	}
	if !is(m, page) {
		t.Error("behind all writes")
	}
}

// P3: pieces that are handed in stay, spare room too, and memory shares nothing with them.
func TestKeepsGiven(t *testing.T) {
	room := counted(300)
	want := slices.Clone(room)
	list := [3]api.Piece{{At: 1, Bytes: room[5:9]}, {At: 60, Bytes: room[100:200]}, {At: 7, Bytes: room[:2]}}
	m, _ := ram.Of(list[:2])
	page := laid(map[int][]byte{1: want[5:9], 60: want[100:200]})
	if !bytes.Equal(room, want) || !alike(list[:], []api.Piece{{At: 1, Bytes: want[5:9]}, {At: 60, Bytes: want[100:200]}, {At: 7, Bytes: want[:2]}}) {
		t.Error("pieces that were given are changed")
	}
	for at := range uint16(size) {
		m.Write(at, 9)
	}
	if !bytes.Equal(room, want) {
		t.Error("pieces are changed with memory")
	}
	m, _ = ram.Of(list[:2])
	clear(room)
	clear(list[:])
	if !is(m, page) {
		t.Error("memory is changed with its pieces")
	}
	full := counted(size)
	m, _ = ram.Of([]api.Piece{{At: 0, Bytes: full}})
	full[0] = 99
	m.Write(1, 98)
	if m.Read(0) != 1 || full[1] != 2 {
		t.Error("a piece as long as memory is memory")
	}
}

// P3: pieces that were answered are the caller's: they share nothing with memory, nor with one another.
func TestPiecesApart(t *testing.T) {
	page := laid(map[int][]byte{0: {1, 2, 0, 3, 4, 0, 5}})
	m := written(page)
	l, kept := m.Pieces(), m.Pieces()
	l[0].Bytes[0] = 9
	_ = append(l[0].Bytes, 9, 9, 9)
	_ = append(l[1].Bytes, 9, 9, 9)
	if !is(m, page) || !alike(kept, runs(page)) || !alike(l[1:], kept[1:]) {
		t.Error("memory, or other pieces, are changed with its pieces")
	}
	for at := range uint16(size) {
		m.Write(at, 6)
	}
	if !alike(kept, runs(page)) {
		t.Error("pieces are changed with memory")
	}
}

// P5: reading changes nothing, and two memories have nothing to do with one another.
func TestReadingKeeps(t *testing.T) {
	page := pages()["across"]
	m := written(page)
	other := written(counted(size))
	for range 2 {
		whole(m)
		m.Pieces()
		m.Blocks()
		ram.Same(m, other)
		ram.Other(other, m)
		m.Clone().Write(5, 5)
		if !is(m, page) || !is(other, counted(size)) {
			t.Error("memory is changed by being read")
		}
	}
}

// P5.1, P5.2: memory has the pieces that an image of one page has.
func TestAsImages(t *testing.T) {
	for name, page := range pages() {
		want, _ := cart.Pieces(page)
		if got := written(page).Pieces(); !alike(got, want) {
			t.Errorf("%s: %d pieces, of an image %d", name, len(got), len(want))
		}
	}
}

// The example of the chapter.
func TestExample(t *testing.T) {
	m := ram.New()
	m.Write(8193, 7)
	if m.Read(1) != 7 || !alike(m.Pieces(), []api.Piece{{At: 1, Bytes: []byte{7}}}) || m.Blocks() != 1 {
		t.Errorf("New, Write(8193, 7): %d, %v, %d", m.Read(1), m.Pieces(), m.Blocks())
	}
}
