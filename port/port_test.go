package port_test

import (
	"bytes"
	"slices"
	"testing"

	"gannet/port"
)

// told is so many bytes, both of whose halves are unlike, and unlike those of their neighbours.
func told(n int) []byte {
	b := make([]byte, n)
	for i := range b {
		b[i] = byte(i*0x13 + 0x2C)
	}
	return b
}

// is tells whether all that is told of a port, but what it reads, is so.
func is(p *port.Port, lines byte, pad, taken int) bool {
	return p.Select() == lines && p.Pad() == pad && p.Taken() == taken
}

// reads tells whether a port reads such bytes, one behind the other.
func reads(p *port.Port, want ...byte) bool {
	for _, b := range want {
		if p.Read() != b {
			return false
		}
	}
	return true
}

// written is a port of bytes to which some were written.
func written(l []byte, writes ...byte) *port.Port {
	p := port.New(l)
	for _, b := range writes {
		p.Write(b)
	}
	return p
}

// model is a port as the chapter tells it.
type model struct {
	l          []byte
	lines      byte
	pad, taken int
}

// write changes both lines.
func (m *model) write(b byte) {
	rises := m.lines&1 == 0 && b&1 == 1
	if m.lines = b & 3; b&2 == 2 {
		m.pad = 0
	} else if rises && m.pad < 5 {
		m.pad++
	}
}

// read is what is read.
func (m *model) read() byte {
	if m.lines&2 == 2 || m.pad == 5 {
		return 0xB0
	}
	b := byte(255)
	if m.taken < len(m.l) {
		b = m.l[m.taken]
	}
	m.taken++
	if m.lines&1 == 1 {
		return 0xB0 | b>>4
	}
	return 0xB0 | b&0x0F
}

// P10.1: a new port asks pad 0, both lines being 0, and asked for nothing.
func TestNew(t *testing.T) {
	for _, l := range [][]byte{nil, {}, {0}, {0x5A}, told(100)} {
		if p := port.New(l); p == nil || !is(p, 0, 0, 0) {
			t.Errorf("a new port of %d bytes", len(l))
		}
	}
	if port.New(nil) == port.New(nil) {
		t.Error("two new ports are one")
	}
}

// P10.1: each of both lines alone, both together, and none, behind each other one.
func TestWrite(t *testing.T) {
	// pads is which pad is asked, by the lines ahead and those that are written, of a port that asks pad 2.
	pads := map[[2]byte]int{
		{0, 0}: 2, {0, 1}: 3, {0, 2}: 0, {0, 3}: 0,
		{1, 0}: 2, {1, 1}: 2, {1, 2}: 0, {1, 3}: 0,
	}
	for lines, pad := range pads {
		p := written(told(9), 1, 0, 1)
		if p.Write(lines[0]); !is(p, lines[0], 2, 0) {
			t.Fatalf("lines %d, pad %d", p.Select(), p.Pad())
		}
		if p.Write(lines[1]); !is(p, lines[1], pad, 0) {
			t.Errorf("%v: lines %d, pad %d", lines, p.Select(), p.Pad())
		}
	}
	// Where clear is set ahead pad 0 is asked; from there on select leads to pad 1, if it wasn't set.
	for lines, pad := range map[[2]byte]int{
		{2, 0}: 0, {2, 1}: 1, {2, 2}: 0, {2, 3}: 0,
		{3, 0}: 0, {3, 1}: 0, {3, 2}: 0, {3, 3}: 0,
	} {
		if p := written(told(9), 1, 0, 1, lines[0], lines[1]); !is(p, lines[1], pad, 0) {
			t.Errorf("%v: lines %d, pad %d", lines, p.Select(), p.Pad())
		}
	}
}

// P10.1: select that stays set asks no other pad; cleared it doesn't, either; set again it does.
func TestSelect(t *testing.T) {
	p := port.New(told(9))
	for i, c := range []struct {
		b   byte
		pad int
	}{{1, 1}, {1, 1}, {1, 1}, {0, 1}, {0, 1}, {1, 2}, {1, 2}, {0, 2}, {1, 3}} {
		if p.Write(c.b); !is(p, c.b, c.pad, 0) {
			t.Errorf("write %d: lines %d, pad %d", i, p.Select(), p.Pad())
		}
	}
}

// P10.1: clear while select rises asks pad 0; select is set then, so that it doesn't rise again till it was cleared.
func TestClearWhileSelectRises(t *testing.T) {
	p := written(told(9), 1, 0, 1, 0)
	if p.Write(3); !is(p, 3, 0, 0) {
		t.Errorf("both: lines %d, pad %d", p.Select(), p.Pad())
	}
	if p.Write(1); !is(p, 1, 0, 0) {
		t.Errorf("select stays: lines %d, pad %d", p.Select(), p.Pad())
	}
	p.Write(0)
	if p.Write(1); !is(p, 1, 1, 0) {
		t.Errorf("select again: lines %d, pad %d", p.Select(), p.Pad())
	}
}

// P10.1: bits of what is written other than 0 and 1 are nothing.
func TestWriteOtherBits(t *testing.T) {
	for b := range 256 {
		for ahead := range byte(4) {
			p, q := written(told(9), 1, 0, ahead), written(told(9), 1, 0, ahead)
			p.Write(byte(b))
			if q.Write(byte(b & 3)); !is(p, byte(b&3), q.Pad(), 0) || p.Read() != q.Read() {
				t.Errorf("%d behind %d: lines %d, pad %d", b, ahead, p.Select(), p.Pad())
			}
		}
	}
}

// P10.1, P10.3: more rises than there are pads: they are counted at most to 5, from where clear leads back.
func TestManyRises(t *testing.T) {
	p := port.New(told(9))
	for n := 1; n <= 1000; n++ {
		p.Write(1)
		if !is(p, 1, min(n, 5), 0) {
			t.Fatalf("rise %d: pad %d", n, p.Pad())
		}
		if p.Write(0); !is(p, 0, min(n, 5), 0) {
			t.Fatalf("behind rise %d: pad %d", n, p.Pad())
		}
	}
	p.Write(2)
	if !is(p, 2, 0, 0) {
		t.Errorf("cleared: pad %d", p.Pad())
	}
	if p.Write(1); !is(p, 1, 1, 0) {
		t.Errorf("cleared, and select: pad %d", p.Pad())
	}
}

// P10.2: the lower half is told, if select isn't set, the upper one, if it is; of each byte.
func TestReadHalves(t *testing.T) {
	for b := range 256 {
		if p := port.New([]byte{byte(b)}); p.Read() != 0xB0+byte(b%16) || !is(p, 0, 0, 1) {
			t.Errorf("the lower half of %d", b)
		}
		if p := written([]byte{byte(b)}, 1); p.Read() != 0xB0+byte(b/16) || !is(p, 1, 1, 1) {
			t.Errorf("the upper half of %d", b)
		}
	}
}

// P10.2: each read takes a byte, whichever half of it is told; none is told twice.
func TestReadTakes(t *testing.T) {
	p := port.New([]byte{0x12, 0x34, 0x56, 0x78, 0x9A})
	if !reads(p, 0xB2, 0xB4) || !is(p, 0, 0, 2) {
		t.Error("two lower halves")
	}
	p.Write(1)
	if !reads(p, 0xB5) || !is(p, 1, 1, 3) {
		t.Error("an upper half behind lower ones")
	}
	p.Write(0)
	if !reads(p, 0xB8) || !is(p, 0, 1, 4) {
		t.Error("a lower half behind an upper one")
	}
	p.Write(1)
	if !reads(p, 0xB9) || !is(p, 1, 2, 5) {
		t.Error("an upper half of the last byte")
	}
}

// P10.2: with clear set nothing is told, and nothing is taken, select being set, or not.
func TestReadCleared(t *testing.T) {
	for _, lines := range []byte{2, 3, 0xFE, 0xFF} {
		p := written([]byte{0x5A, 0x6B}, lines)
		if !reads(p, 0xB0, 0xB0, 0xB0) || !is(p, lines&3, 0, 0) {
			t.Errorf("cleared by %d: %d taken", lines, p.Taken())
		}
		p.Write(0)
		if !reads(p, 0xBA) || !is(p, 0, 0, 1) {
			t.Errorf("cleared by %d, and not any more", lines)
		}
		p.Write(lines)
		if !reads(p, 0xB0) || !is(p, lines&3, 0, 1) {
			t.Errorf("cleared by %d, again", lines)
		}
	}
}

// P10.2: pads 0 to 4 are told; of pad 5, which is none, nothing is, and nothing is taken.
func TestReadPads(t *testing.T) {
	l := told(20)
	p := port.New(l)
	for pad := range 5 {
		low, high := l[2*pad], l[2*pad+1]
		if !is(p, 0, pad, 2*pad) || !reads(p, 0xB0+low%16) {
			t.Errorf("pad %d: its lower half", pad)
		}
		if pad == 4 {
			break
		}
		p.Write(1)
		if !is(p, 1, pad+1, 2*pad+1) || !reads(p, 0xB0+high/16) {
			t.Errorf("pad %d: its upper half", pad+1)
		}
		p.Write(0)
	}
	for _, lines := range []byte{1, 0, 1, 1, 0} {
		p.Write(lines)
		if !reads(p, 0xB0, 0xB0) || !is(p, lines, 5, 9) {
			t.Errorf("pad %d: lines %d, %d taken", p.Pad(), p.Select(), p.Taken())
		}
	}
	p.Write(2)
	p.Write(0)
	if !reads(p, 0xB0+l[9]%16) || !is(p, 0, 0, 10) {
		t.Error("pad 0, behind none")
	}
}

// P10.2: pad 4 is told by the upper half, too.
func TestReadPad4(t *testing.T) {
	p := written([]byte{0x9C}, 1, 0, 1, 0, 1, 0, 1)
	if !is(p, 1, 4, 0) || !reads(p, 0xB9) || !is(p, 1, 4, 1) {
		t.Errorf("pad %d, %d taken", p.Pad(), p.Taken())
	}
}

// P10.2: behind the feed's last byte both halves are of 255, and are counted as asked for.
func TestReadBehindLast(t *testing.T) {
	for _, l := range [][]byte{nil, {}, {0x00}, {0x12, 0x34}} {
		p := port.New(l)
		for range l {
			p.Read()
		}
		for n := range 50 {
			lines := byte(n % 2)
			p.Write(2)
			p.Write(lines)
			if !reads(p, 0xBF) || !is(p, lines, int(lines), len(l)+n+1) {
				t.Fatalf("%d bytes, and %d more: %d taken", len(l), n, p.Taken())
			}
		}
		p.Write(2)
		if !reads(p, 0xB0) || p.Taken() != len(l)+50 {
			t.Error("cleared, behind the last byte")
		}
	}
}

// P10.3: what is taken is counted read by read, as far as something is told.
func TestTaken(t *testing.T) {
	p, want := port.New(told(30)), 0
	for n := range 300 {
		p.Write(byte(n * n / 3))
		before := p.Taken()
		tells := p.Pad() < 5 && p.Select() < 2
		if p.Read(); tells {
			want++
		}
		if before > p.Taken() || p.Taken() != want {
			t.Fatalf("read %d: %d taken, not %d", n, p.Taken(), want)
		}
	}
	if want == 0 || want == 300 {
		t.Error("reads of one kind alone")
	}
}

// P10.1, P10.2, P10.3: whatever is written and read, it is as the chapter tells it.
func TestAsTold(t *testing.T) {
	for _, l := range [][]byte{nil, told(7), told(5000)} {
		p, m, n := port.New(l), model{l: l}, uint32(7)
		for i := range 20000 {
			n = n*1664525 + 1013904223
			switch b := byte(n >> 16); {
			case n>>30 == 0:
				p.Write(b)
				m.write(b)
			case n>>30 < 3:
				p.Write(b &^ 2)
				m.write(b &^ 2)
			default:
				if got, want := p.Read(), m.read(); got != want {
					t.Fatalf("%d bytes, step %d: %d, not %d", len(l), i, got, want)
				}
			}
			if !is(p, m.lines, m.pad, m.taken) {
				t.Fatalf("%d bytes, step %d: lines %d, pad %d, %d taken", len(l), i, p.Select(), p.Pad(), p.Taken())
			}
		}
	}
}

// P10.3, P5: a clone is alike, another one, and apart, whichever of both goes on, or is written.
func TestClone(t *testing.T) {
	l := []byte{0x12, 0x34, 0x56, 0x78, 0x9A}
	p := written(l, 1, 0, 1)
	p.Read()
	c := p.Clone()
	if c == nil || c == p || !is(c, 1, 2, 1) || !is(p, 1, 2, 1) {
		t.Fatal("a clone isn't alike, or isn't another one")
	}
	if !reads(c, 0xB3, 0xB5) || !is(c, 1, 2, 3) || !is(p, 1, 2, 1) {
		t.Error("a clone is read, and the first one with it")
	}
	c.Write(0)
	if c.Write(1); !is(c, 1, 3, 3) || !is(p, 1, 2, 1) {
		t.Error("a clone is written, and the first one with it")
	}
	if !reads(p, 0xB3) || !is(p, 1, 2, 2) || !is(c, 1, 3, 3) {
		t.Error("the first one is read, and its clone with it")
	}
	if p.Write(2); !is(p, 2, 0, 2) || !is(c, 1, 3, 3) {
		t.Error("the first one is written, and its clone with it")
	}
	d := c.Clone()
	c.Write(0)
	if !reads(c, 0xB8) || !reads(d, 0xB7, 0xB9, 0xBF) || !is(c, 0, 3, 4) || !is(d, 1, 3, 6) {
		t.Error("a clone of a clone")
	}
	p.Write(0)
	if !reads(p, 0xB6, 0xB8, 0xBA, 0xBF) || !is(p, 0, 0, 6) || !reads(c, 0xBA, 0xBF) {
		t.Error("all of them read to the last byte")
	}
}

// P10.3: a clone of a port that is new, cleared, asks none, or is behind its last byte is alike.
func TestCloneAlike(t *testing.T) {
	for _, writes := range [][]byte{nil, {1}, {2}, {3}, {3, 1}, {1, 0, 1, 0, 1, 0, 1, 0, 1, 0, 1}} {
		for n := range 4 {
			p := written([]byte{0x12, 0x34}, writes...)
			for range n {
				p.Read()
			}
			c := p.Clone()
			if !is(c, p.Select(), p.Pad(), p.Taken()) || c.Read() != p.Read() || !is(c, p.Select(), p.Pad(), p.Taken()) {
				t.Errorf("%v, %d read: a clone isn't alike", writes, n)
			}
			c.Write(1)
			if p.Write(1); !is(c, p.Select(), p.Pad(), p.Taken()) {
				t.Errorf("%v, %d read: a clone isn't alike, written", writes, n)
			}
		}
	}
}

// P5: ports have nothing to do with one another.
func TestApart(t *testing.T) {
	l := []byte{0x12, 0x34}
	p, q := port.New(l), port.New(l)
	p.Read()
	p.Write(1)
	if !is(q, 0, 0, 0) || !reads(q, 0xB2, 0xB4) || !is(p, 1, 1, 1) {
		t.Error("a port goes on with another one of the same bytes")
	}
}

// P3: the list stays, spare room too; what the caller changes of it afterwards doesn't touch the port, nor its clone.
func TestKeepsGiven(t *testing.T) {
	room := told(20)
	want := slices.Clone(room)
	p := port.New(room[5:8])
	c := p.Clone()
	for range 6 {
		c.Read()
	}
	if !bytes.Equal(room, want) {
		t.Error("a list that was given is changed")
	}
	c = p.Clone()
	clear(room)
	for n := 5; n < 8; n++ {
		if b := 0xB0 + want[n]%16; !reads(p, b) || !reads(c, b) {
			t.Errorf("byte %d of a list that was changed", n)
		}
	}
	if !reads(p, 0xBF) || !reads(c, 0xBF) {
		t.Error("a byte behind the list's end")
	}
}

// P10.3, P1: of nil everything is 0 or nil, and 0xB0 is read; nothing happens.
func TestNil(t *testing.T) {
	var p *port.Port
	for b := range 256 {
		p.Write(byte(b))
		if p.Read() != 0xB0 || !is(p, 0, 0, 0) {
			t.Fatalf("a nil port, written as %d", b)
		}
	}
	if p.Clone() != nil {
		t.Error("a nil port's clone")
	}
}

// P1: a port that no call made is as a new one of no bytes.
func TestUnmade(t *testing.T) {
	p := &port.Port{}
	c := p.Clone()
	if !is(p, 0, 0, 0) || !reads(p, 0xBF, 0xBF) || !is(p, 0, 0, 2) {
		t.Error("a port that no call made")
	}
	if c == nil || c == p || !is(c, 0, 0, 0) || !reads(c, 0xBF) || !is(c, 0, 0, 1) || !is(p.Clone(), 0, 0, 2) {
		t.Error("a clone of a port that no call made")
	}
	w := &port.Port{}
	w.Write(1)
	if !reads(w, 0xBF) || !is(w, 1, 1, 1) {
		t.Error("a port that no call made, written")
	}
	if w.Write(2); !reads(w, 0xB0) || !is(w, 2, 0, 1) {
		t.Error("a port that no call made, cleared")
	}
}

// P10.4: cleared, a port asks pad 0, whatever was ahead.
func TestCleared(t *testing.T) {
	for n := range 1 << 10 {
		for _, lines := range []byte{2, 3} {
			p := port.New(told(9))
			for i := range 5 {
				p.Write(byte(n >> (2 * i) & 3))
			}
			taken := p.Taken()
			if p.Write(lines); !is(p, lines, 0, taken) || p.Read() != 0xB0 {
				t.Errorf("cleared by %d behind %b: pad %d", lines, n, p.Pad())
			}
		}
	}
}

// The examples of the chapter.
func TestExamples(t *testing.T) {
	if p := port.New([]byte{0x5A}); !reads(p, 0xBA) {
		t.Error("a new port")
	}
	if p := written([]byte{0x5A}, 1); !is(p, 1, 1, 0) || !reads(p, 0xB5) {
		t.Error("with select set")
	}
	if p := written([]byte{0x5A}, 2); !reads(p, 0xB0) || !is(p, 2, 0, 0) {
		t.Error("with clear set")
	}
}
