package isa_test

import (
	"fmt"
	"strconv"
	"strings"
	"testing"

	"gannet/api"
	"gannet/bus"
	"gannet/hard"
	"gannet/isa"
	"gannet/state"
)

// image is four pages: the first one has 0xEA everywhere, but where kinds go; a byte of another page is its place, and 16 times the page's number, more.
func image() []byte {
	rom := make([]byte, 4*api.PageSize)
	for i := range rom {
		rom[i] = byte(i + 16*(i/api.PageSize))
		if i < api.PageSize {
			rom[i] = 0xEA
		}
	}
	copy(rom[0x1FF6:], []byte{0x25, 0xE2, 0x15, 0xE1, 0xFA, 0xE3, 0x0B, 0xE4, 0x00, 0xE0})
	return rom
}

// feeds is what devices are read as: no two bytes are alike.
func feeds() api.Feeds {
	return api.Feeds{Vdc: []byte{0x91, 0x12, 0x53, 0x14, 0x05, 0x16}, Vce: []byte{0x21, 0xA2, 0x63, 0x24}, Port: []byte{0x5A, 0x6B, 0x7C, 0x8D}}
}

// on is a bus of an image, of the feeds, and of edges.
func on(t *testing.T, rom []byte, budget int64, edges ...api.Edge) *bus.Bus {
	t.Helper()
	p, f := hard.New(feeds(), edges)
	if f != (api.Fault{}) {
		t.Fatalf("a page: %v", f)
	}
	return bus.New(rom, p, budget)
}

// base is registers: page 0 is the devices', 1 work memory, 2 and 3 the image's second and third one, 4 is open, 5 beyond the image, 6 the image's fourth one, 7 its first one.
func base() api.State {
	return api.State{S: 0xFF, PC: 0xE000, Mpr: [8]byte{0xFF, 0xF8, 0x01, 0x02, 0x80, 0x55, 0x03, 0x00}}
}

// with is registers that are others, as words tell: a name of layer 25, = and hexadecimal digits, but of P the letters of the flags that are set.
func with(t *testing.T, s api.State, text string) api.State {
	t.Helper()
	for _, word := range strings.Fields(text) {
		name, value, _ := strings.Cut(word, "=")
		v, err := uint64(0), error(nil)
		if name == "P" {
			for _, flag := range value {
				v |= 0x80 >> strings.IndexRune("NVTBDIZC", flag)
			}
		} else {
			v, err = strconv.ParseUint(value, 16, 16)
		}
		next, e := state.Set(s, name, uint16(v))
		if err != nil || e != api.OK {
			t.Fatalf("%s: no register", word)
		}
		s = next
	}
	return s
}

// bytes is bytes, written in hexadecimal digits, with blanks between.
func bytes(t *testing.T, text string) []byte {
	t.Helper()
	var l []byte
	for _, word := range strings.Fields(text) {
		v, err := strconv.ParseUint(word, 16, 8)
		if err != nil {
			t.Fatalf("%s: no byte", word)
		}
		l = append(l, byte(v))
	}
	return l
}

// pieces is pieces, written as words: a place, : and bytes, with commas between, all in hexadecimal digits.
func pieces(t *testing.T, text string) []api.Piece {
	t.Helper()
	var l []api.Piece
	for _, word := range strings.Fields(text) {
		at, rest, _ := strings.Cut(word, ":")
		n, err := strconv.ParseUint(at, 16, 16)
		if err != nil {
			t.Fatalf("%s: no piece", word)
		}
		l = append(l, api.Piece{At: int(n), Bytes: bytes(t, strings.ReplaceAll(rest, ",", " "))})
	}
	return l
}

// told is accesses, written as letters, physical addresses and bytes; with ! where one that writes is told as one that reads, or the other way round.
func told(l []api.Access) string {
	var words []string
	for _, x := range l {
		word := fmt.Sprintf("%c%X:%02X", "FODLSPUV"[x.Kind%8], x.Addr, x.Data)
		if x.Write != (x.Kind == api.Store || x.Kind == api.Push) {
			word += "!"
		}
		words = append(words, word)
	}
	return strings.Join(words, " ")
}

// ram is work memory, written as pieces are.
func ram(b *bus.Bus) string {
	var words []string
	for _, p := range b.Ram() {
		words = append(words, fmt.Sprintf("%X:%s", p.At, strings.ReplaceAll(fmt.Sprintf("% X", p.Bytes), " ", ",")))
	}
	return strings.Join(words, " ")
}

// step is an instruction, and what comes of it.
type step struct {
	code   string // its bytes, from PC on: in the image's pages, or in work memory
	ahead  string // registers ahead that aren't as in base
	memory string // work memory ahead
	told   string // its accesses
	behind string // registers behind that aren't as ahead
	ram    string // work memory behind, if - isn't in its place: that is as ahead
}

// laid is a bus with an instruction's bytes laid from PC on, and its work memory.
func laid(t *testing.T, s api.State, code, memory string, budget int64) *bus.Bus {
	t.Helper()
	rom := image()
	var l []api.Piece
	for i, v := range bytes(t, code) {
		at := s.PC + uint16(i)
		a := uint32(s.Mpr[at>>13])<<13 | uint32(at&0x1FFF)
		switch {
		case int(a) < len(rom):
			rom[a] = v
		case a>>13 == 0xF8:
			l = append(l, api.Piece{At: int(a & 0x1FFF), Bytes: []byte{v}})
		default:
			t.Fatalf("no byte can be laid at %#x", a)
		}
	}
	b := on(t, rom, budget)
	if f := b.Fill(append(pieces(t, memory), l...)); f != (api.Fault{}) {
		t.Fatalf("%s: %v", memory, f)
	}
	return b
}

// done does an instruction, and holds what comes of it against what is wanted.
func done(t *testing.T, x step) {
	t.Helper()
	s := with(t, base(), x.ahead)
	b := laid(t, s, x.code, x.memory, 1000)
	was := ram(b)
	c := isa.New(s, b)
	s.P &^= api.FlagT
	want := with(t, s, x.behind)
	if got := c.Step(); got != bytes(t, x.code)[0] {
		t.Errorf("%s: %#x was fetched", x.code, got)
	}
	if got := c.State(); got != want {
		t.Errorf("%s, %s:\n%s, not\n%s", x.code, x.ahead, state.Text(got), state.Text(want))
	}
	if got := told(b.Trace()); got != x.told {
		t.Errorf("%s, %s:\n%s, not\n%s", x.code, x.ahead, got, x.told)
	}
	if x.ram != "-" {
		was = x.ram
	}
	if got := ram(b); got != was {
		t.Errorf("%s, %s: memory %s, not %s", x.code, x.ahead, got, was)
	}
}

// all does instructions.
func all(t *testing.T, steps []step) {
	t.Helper()
	for _, x := range steps {
		done(t, x)
	}
}
