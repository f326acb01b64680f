package seq_test

import (
	"fmt"
	"slices"
	"strconv"
	"strings"
	"testing"

	"gannet/api"
	"gannet/bus"
	"gannet/hard"
	"gannet/micro"
	"gannet/opcode"
	"gannet/seq"
	"gannet/state"
)

// image is four pages: the first one has 0xEA everywhere, but where kinds go; a byte of another page is its place, and 16 times the page's number, more.
func image() []byte {
	rom := make([]byte, 4*api.PageSize)
	for i := range rom {
		rom[i] = byte(i + 16*(i/api.PageSize))
		if i < api.PageSize {
			rom[i] = 0xEA
		}
	}
	copy(rom[0x1FF6:], []byte{0x25, 0xE2, 0x15, 0xE1, 0xFA, 0xE3, 0x0B, 0xE4, 0x00, 0xE0})
	return rom
}

// on is a bus of an image, of feeds no two bytes of which are alike, and of an edge of nmi.
func on(t *testing.T, rom []byte, budget int64) *bus.Bus {
	t.Helper()
	p, f := hard.New(
		api.Feeds{Vdc: []byte{0x91, 0x12, 0x53, 0x14, 0x05, 0x16}, Vce: []byte{0x21, 0xA2, 0x63, 0x24}, Port: []byte{0x5A, 0x6B, 0x7C, 0x8D}},
		[]api.Edge{{Stamp: 3, Line: api.LineNmi, Up: true}},
	)
	if f != (api.Fault{}) {
		t.Fatalf("a page: %v", f)
	}
	return bus.New(rom, p, budget)
}

// base is registers: page 0 is the devices', 1 work memory, 2 and 3 the image's second and third one, 4 is open, 5 beyond the image, 6 the image's fourth one, 7 its first one.
func base() api.State {
	return api.State{S: 0xFF, PC: 0xE000, Mpr: [8]byte{0xFF, 0xF8, 0x01, 0x02, 0x80, 0x55, 0x03, 0x00}}
}

// with is registers that are others, as words tell: a name of layer 25, = and hexadecimal digits, but of P the letters of the flags that are set.
func with(t *testing.T, s api.State, text string) api.State {
	t.Helper()
	for _, word := range strings.Fields(text) {
		name, value, _ := strings.Cut(word, "=")
		v, err := uint64(0), error(nil)
		if name == "P" {
			for _, flag := range value {
				v |= 0x80 >> strings.IndexRune("NVTBDIZC", flag)
			}
		} else {
			v, err = strconv.ParseUint(value, 16, 16)
		}
		next, e := state.Set(s, name, uint16(v))
		if err != nil || e != api.OK {
			t.Fatalf("%s: no register", word)
		}
		s = next
	}
	return s
}

// bytes is bytes, written in hexadecimal digits, with blanks between.
func bytes(t *testing.T, text string) []byte {
	t.Helper()
	var l []byte
	for _, word := range strings.Fields(text) {
		v, err := strconv.ParseUint(word, 16, 8)
		if err != nil {
			t.Fatalf("%s: no byte", word)
		}
		l = append(l, byte(v))
	}
	return l
}

// lay is a bus with bytes laid from PC on, in the image's pages or in work memory, whose zero page has some more.
func lay(t *testing.T, s api.State, code, zero []byte, budget int64) *bus.Bus {
	t.Helper()
	rom := image()
	l := []api.Piece{{Bytes: zero}}
	for i, v := range code {
		at := s.PC + uint16(i)
		a := uint32(s.Mpr[at>>13])<<13 | uint32(at&0x1FFF)
		if int(a) < len(rom) {
			rom[a] = v
		} else {
			l = append(l, api.Piece{At: int(a & 0x1FFF), Bytes: []byte{v}})
		}
	}
	b := on(t, rom, budget)
	if f := b.Fill(l); f != (api.Fault{}) {
		t.Fatalf("%v", f)
	}
	return b
}

// laid is a bus with bytes laid from PC on, written in digits; the bytes from 0x10 on of the zero page have others.
func laid(t *testing.T, s api.State, code, memory string, budget int64) *bus.Bus {
	t.Helper()
	return lay(t, s, bytes(t, code), append(make([]byte, 0x10), bytes(t, memory)...), budget)
}

// told is accesses, written as letters, physical addresses and bytes; with ! where one that writes is told as one that reads, or the other way round.
func told(l []api.Access) string {
	var words []string
	for _, x := range l {
		word := fmt.Sprintf("%c%X:%02X", "FODLSPUV"[x.Kind%8], x.Addr, x.Data)
		if x.Write != (x.Kind == api.Store || x.Kind == api.Push) {
			word += "!"
		}
		words = append(words, word)
	}
	return strings.Join(words, " ")
}

// alike tells what of two buses isn't alike; nothing, if all is.
func alike(b, other *bus.Bus) string {
	l, k := b.Trace(), other.Trace()
	n := 0
	for n < len(l) && n < len(k) && l[n] == k[n] {
		n++
	}
	piece := func(x, y api.Piece) bool { return x.At == y.At && slices.Equal(x.Bytes, y.Bytes) }
	switch {
	case n < len(l) || n < len(k):
		return fmt.Sprintf("access %d: %s, not %s", n, told(l[n:min(n+4, len(l))]), told(k[n:min(n+4, len(k))]))
	case b.Over() != other.Over() || b.Left() != other.Left() || b.Now() != other.Now() || b.Fast() != other.Fast():
		return "clock"
	case !slices.EqualFunc(b.Ram(), other.Ram(), piece):
		return "memory"
	case b.Status() != other.Status():
		return "devices"
	}
	return ""
}

// ops is the ops of a byte that are done, by the registers ahead and by the accesses that there were.
func ops(b byte, was api.State, l []api.Access) []micro.Op {
	op := opcode.Of(b)
	taken := (op.Mode == opcode.Rel || op.Mode == opcode.ZpRel) && len(l) > op.Cycles
	var out, loop []micro.Op
	for _, o := range micro.Of(b) {
		switch {
		case o.When == 'T' && was.P&api.FlagT == 0:
		case o.When == 'D' && was.P&api.FlagD == 0:
		case o.When == 'B' && !taken:
		case o.When == 'N':
			loop = append(loop, o)
			if len(loop) == 6 {
				for range (len(l) - op.Cycles) / 6 {
					out = append(out, loop...)
				}
			}
		default:
			out = append(out, o)
		}
	}
	return out
}

// follows does the cycles of a program, from a boundary, or from an entry's beginning on: each is the op that was told ahead, and one access; registers are told anew behind the last one.
func follows(t *testing.T, q *seq.Seq, b *bus.Bus, program []micro.Op) {
	t.Helper()
	was, steps := q.State(), q.Steps()
	for n, want := range program {
		count := len(b.Trace())
		got, ok := q.Next()
		if got != want || !ok {
			t.Fatalf("op %d: %s, %v, not %s", n, micro.Text([]micro.Op{got}), ok, micro.Text([]micro.Op{want}))
		}
		last := n == len(program)-1
		if idle := q.Cycle(); idle != last || q.Idle() != last {
			t.Fatalf("op %d of %s: %v, at a boundary %v", n, micro.Text(program), idle, q.Idle())
		}
		if l := b.Trace(); len(l) != count+1 || l[count].Kind != want.Kind() {
			t.Fatalf("op %d of %s: %s", n, micro.Text(program), told(l[count:]))
		}
		if !last && (q.State() != was || q.Steps() != steps) {
			t.Fatalf("op %d of %s: %v, %d", n, micro.Text(program), q.State(), q.Steps())
		}
	}
	if q.Steps() != steps+1 {
		t.Errorf("%d boundaries, not %d", q.Steps(), steps+1)
	}
	if got, ok := q.Next(); got != (micro.Op{Access: 'F'}) || !ok {
		t.Errorf("at a boundary: %v, %v", got, ok)
	}
}

// chance is numbers that follow one another.
type chance uint64

func (x *chance) next(n int) int {
	*x = *x*6364136223846793005 + 1442695040888963407
	return int(uint64(*x) >> 33 % uint64(n))
}

// one is one of many.
func (x *chance) one(many ...byte) byte { return many[x.next(len(many))] }

// any is registers, of banks of each sort, but that PC is where bytes can be laid.
func (x *chance) any() api.State {
	s := api.State{A: byte(x.next(256)), X: byte(x.next(256)), Y: byte(x.next(256)), S: x.one(0, 1, 2, 3, 0x80, 0xFE, 0xFF, byte(x.next(256))), P: byte(x.next(256)), Last: byte(x.next(256)), Fast: x.next(2) == 0}
	for n := range s.Mpr {
		s.Mpr[n] = x.one(0, 1, 2, 3, 0xF8, 0xF9, 0xFA, 0xFB, 0xF8, 0xFF, 0x80, 0x55)
	}
	if x.next(4) > 0 {
		s.Mpr[1] = 0xF8
	}
	s.PC = uint16(x.next(65536))
	if x.next(8) == 0 {
		s.PC = 0xFFFA + uint16(x.next(6))
	}
	s.Mpr[s.PC>>13] = x.one(0, 1, 2, 3, 0xF8, 0xFB)
	s.Mpr[(s.PC+6)>>13] = s.Mpr[s.PC>>13]
	return s
}

// bytes is so many bytes.
func (x *chance) bytes(n int) []byte {
	l := make([]byte, n)
	for i := range l {
		l[i] = byte(x.next(256))
	}
	return l
}
