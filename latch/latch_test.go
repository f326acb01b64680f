package latch_test

import (
	"bytes"
	"slices"
	"testing"

	"gannet/latch"
)

// masks are masks of no bits, of all, of single ones and of some.
var masks = []byte{0, 255, 1, 2, 4, 8, 16, 32, 64, 128, 0x7F, 0x80, 0x0F, 0xF0, 0x03, 0x07, 0x55, 0xAA}

// values are bytes that a buffer has, or is driven to.
var values = []byte{0, 1, 0x12, 0x55, 0x7F, 0x80, 0xAA, 0xF0, 0xFF}

// bit tells whether a byte has a bit.
func bit(b byte, n int) bool { return b>>n%2 == 1 }

// driven is a byte whose bits of a mask are those of another one, bit by bit.
func driven(was, mask, b byte) byte {
	out := byte(0)
	for n := range 8 {
		from := was
		if bit(mask, n) {
			from = b
		}
		if bit(from, n) {
			out += 1 << n
		}
	}
	return out
}

// rows are steps: none, one, such as drive nothing, all, and the same bits several times.
func rows() map[string][]latch.Step {
	every := make([]latch.Step, 0, len(masks)*len(values))
	for i, m := range masks {
		for j := range values {
			every = append(every, latch.Step{Mask: m, Data: values[(i+j)%len(values)]})
		}
	}
	return map[string][]latch.Step{
		"nil": nil, "empty": {}, "none": {{0, 255}}, "all": {{255, 0x12}}, "one": {{0x10, 0xFF}},
		"some":   {{0x7F, 0x12}, {0x03, 0xFF}, {0, 0}, {0x0F, 0xF0}},
		"halves": {{0x0F, 0xA5}, {0xF0, 0x5A}},
		"again":  {{0x01, 1}, {0x01, 0}, {0x01, 1}, {0x80, 0x80}, {0x80, 0}},
		"but 3":  {{0xF7, 0xFF}, {0xF7, 0x00}, {0xF7, 0x11}},
		"every":  every,
	}
}

// P8.1: a new buffer has its byte, whichever; two are two.
func TestNew(t *testing.T) {
	for b := range 256 {
		l := latch.New(byte(b))
		if l.Value() != byte(b) || l.Value() != byte(b) {
			t.Errorf("New(%d) has %d", b, l.Value())
		}
	}
	if latch.New(1) == latch.New(1) {
		t.Error("two new buffers are one")
	}
}

// P8.1: what is written it has, all of it, whatever it had.
func TestWrite(t *testing.T) {
	for _, was := range values {
		l := latch.New(was)
		for b := range 256 {
			l.Write(byte(b))
			if l.Value() != byte(b) {
				t.Errorf("Write(%d): %d", b, l.Value())
			}
		}
	}
}

// P8.1: the bits of the mask are driven, all others stay; that is what is read, and what it has then.
func TestRead(t *testing.T) {
	for mask := range 256 {
		for _, was := range values {
			for _, b := range values {
				l, want := latch.New(was), driven(was, byte(mask), b)
				if got := l.Read(byte(mask), b); got != want || l.Value() != want {
					t.Errorf("%#x, Read(%#x, %#x): %#x, and it has %#x", was, mask, b, got, l.Value())
				}
			}
		}
	}
}

// P8.1: a mask of no bits changes nothing, one of all bits all, one of a bit that bit alone.
func TestReadMasks(t *testing.T) {
	for was := range 256 {
		l := latch.New(byte(was))
		if l.Read(0, ^byte(was)) != byte(was) || l.Value() != byte(was) {
			t.Errorf("%#x, nothing driven", was)
		}
		for n := range 8 {
			l := latch.New(byte(was))
			if got := l.Read(1<<n, ^byte(was)); got != byte(was)^1<<n || l.Value() != got {
				t.Errorf("%#x, bit %d driven: %#x", was, n, got)
			}
		}
		if l.Read(255, ^byte(was)) != ^byte(was) || l.Value() != ^byte(was) {
			t.Errorf("%#x, all driven", was)
		}
	}
}

// P8.1: what is read hangs on what was written, and on what was read ahead of it.
func TestReadBehind(t *testing.T) {
	l := latch.New(0)
	l.Write(0xF0)
	if l.Read(0x3C, 0x0F) != 0xCC || l.Read(0x01, 0xFF) != 0xCD {
		t.Error("a read behind a write, or behind a read")
	}
	l.Write(0x00)
	if l.Read(0x80, 0xFF) != 0x80 || l.Value() != 0x80 {
		t.Error("a read behind another write")
	}
}

// P5: buffers have nothing to do with one another.
func TestApart(t *testing.T) {
	a, b := latch.New(1), latch.New(2)
	a.Write(7)
	if b.Read(0xF0, 0xFF) != 0xF2 || a.Value() != 7 {
		t.Error("two buffers aren't apart")
	}
}

// P8.1, P1: nil has 0 and isn't changed; read, the bits of the byte that are in the mask.
func TestNil(t *testing.T) {
	var l *latch.Latch
	for mask := range 256 {
		for _, b := range values {
			l.Write(b)
			if got := l.Read(byte(mask), b); got != driven(0, byte(mask), b) || l.Value() != 0 {
				t.Errorf("nil, Read(%#x, %#x): %#x", mask, b, got)
			}
		}
	}
}

// P1: a buffer that no call made is as a new one of 0.
func TestUnmade(t *testing.T) {
	l := &latch.Latch{}
	if l.Value() != 0 || l.Read(0x0F, 0xFF) != 0x0F || l.Value() != 0x0F || l.Read(0xF0, 0xAA) != 0xAF {
		t.Error("a buffer that no call made, read")
	}
	if l.Write(9); l.Value() != 9 {
		t.Error("a buffer that no call made, written")
	}
}

// P8.2: what a buffer answers, step by step, and what it has at last.
func TestRow(t *testing.T) {
	for name, steps := range rows() {
		for _, from := range values {
			was, want := from, []byte{}
			for _, s := range steps {
				was = driven(was, s.Mask, s.Data)
				want = append(want, was)
			}
			if got, end := latch.Row(from, steps); !bytes.Equal(got, want) || end != was {
				t.Errorf("%s, from %#x: %v, %#x", name, from, got, end)
			}
		}
	}
}

// P8.2: it is what Read answers, one by one.
func TestRowIsRead(t *testing.T) {
	for name, steps := range rows() {
		for _, from := range values {
			l := latch.New(from)
			got, end := latch.Row(from, steps)
			for i, s := range steps {
				if l.Read(s.Mask, s.Data) != got[i] {
					t.Errorf("%s, from %#x: step %d", name, from, i)
				}
			}
			if end != l.Value() {
				t.Errorf("%s, from %#x: %#x at last", name, from, end)
			}
		}
	}
}

// P8.2: of no steps nothing is read, and the buffer has what it had.
func TestRowOfNone(t *testing.T) {
	for _, steps := range [][]latch.Step{nil, {}} {
		for from := range 256 {
			if l, end := latch.Row(byte(from), steps); len(l) != 0 || end != byte(from) {
				t.Errorf("from %#x, no steps: %v, %#x", from, l, end)
			}
		}
	}
}

// P8.3: of each bit the last step that has it, from 0 on; -1, if none has.
func TestLast(t *testing.T) {
	for name, steps := range rows() {
		got := latch.Last(steps)
		for n := range 8 {
			want := -1
			for i := range steps {
				if bit(steps[i].Mask, n) {
					want = i
				}
			}
			if got[n] != want {
				t.Errorf("%s, bit %d: %d, not %d", name, n, got[n], want)
			}
		}
	}
}

// P8.3: of no steps, and of such as drive nothing, none.
func TestLastOfNone(t *testing.T) {
	for _, steps := range [][]latch.Step{nil, {}, {{0, 255}}, {{0, 0}, {0, 1}, {0, 128}}} {
		if got := latch.Last(steps); got != [8]int{-1, -1, -1, -1, -1, -1, -1, -1} {
			t.Errorf("%v: %v", steps, got)
		}
	}
}

// P8.3: each bit for itself, of single bits one behind the other, and of many steps.
func TestLastOfSingle(t *testing.T) {
	var steps []latch.Step
	for n := range 8 {
		steps = append(steps, latch.Step{Mask: 1 << n})
	}
	if got := latch.Last(steps); got != [8]int{0, 1, 2, 3, 4, 5, 6, 7} {
		t.Errorf("rising: %v", got)
	}
	slices.Reverse(steps)
	if got := latch.Last(steps); got != [8]int{7, 6, 5, 4, 3, 2, 1, 0} {
		t.Errorf("falling: %v", got)
	}
	many := append(slices.Repeat([]latch.Step{{Mask: 0xFE}}, 70000), latch.Step{Mask: 0x02})
	if got := latch.Last(many); got != [8]int{-1, 70000, 69999, 69999, 69999, 69999, 69999, 69999} {
		t.Errorf("many: %v", got)
	}
}

// P8.4: each bit is what the last step that drove it made it; what none drove is as it was.
func TestBits(t *testing.T) {
	for name, steps := range rows() {
		for _, from := range values {
			last := latch.Last(steps)
			_, end := latch.Row(from, steps)
			for n, i := range last {
				want := bit(from, n)
				if i >= 0 {
					want = bit(steps[i].Data, n)
				}
				if bit(end, n) != want {
					t.Errorf("%s, from %#x: bit %d", name, from, n)
				}
			}
		}
	}
}

// P3: steps stay, spare room too; what was answered is written to by nobody.
func TestKeeps(t *testing.T) {
	room := slices.Clone(rows()["every"])
	want := slices.Clone(room)
	first, _ := latch.Row(5, room[3:9])
	kept := slices.Clone(first)
	latch.Last(room[3:9])
	if !slices.Equal(room, want) {
		t.Error("steps that were given are changed")
	}
	second, _ := latch.Row(9, room[3:9])
	clear(second)
	clear(room)
	if !bytes.Equal(first, kept) {
		t.Error("what was answered is changed")
	}
}

// The examples of the chapter.
func TestExamples(t *testing.T) {
	if got := latch.New(0x80).Read(0x7F, 0x12); got != 0x92 {
		t.Errorf("Read: %#x", got)
	}
	if got := latch.Last([]latch.Step{{0x0F, 0}, {0x03, 0}}); got != [8]int{1, 1, 0, 0, -1, -1, -1, -1} {
		t.Errorf("Last: %v", got)
	}
}
