package script_test

import (
	"bytes"
	"fmt"
	"strings"
	"testing"

	"gannet/api"
	"gannet/script"
)

// laid is an image of so many pages, with pieces laid in.
func laid(pages int, l ...api.Piece) []byte {
	rom := make([]byte, pages*api.PageSize)
	for _, p := range l {
		copy(rom[p.At:], p.Bytes)
	}
	return rom
}

// counted is bytes from 1 on.
func counted(n int) []byte {
	l := make([]byte, n)
	for i := range l {
		l[i] = byte(i%255 + 1)
	}
	return l
}

// P33.4: texts that are written here, word by word.
func TestText(t *testing.T) {
	for _, c := range []struct {
		name string
		s    api.Script
		want string
	}{
		{"the least", api.Script{Rom: laid(1)}, "pages 1\nbudget 0\n"},
		{"the example", api.Script{Rom: laid(1, api.Piece{At: 0x1FFE, Bytes: []byte{0x00, 0xE0}}), Budget: 100}, "pages 1\nrom 001FFF E0\nbudget 100\n"},
		{"the most", api.Script{Rom: laid(128, api.Piece{At: 0xFFFFF, Bytes: []byte{0xAB}}), Budget: 1 << 40}, "pages 128\nrom 0FFFFF AB\nbudget 1099511627776\n"},
		{"all", sound(), "pages 2\nrom 001FFF E0\nvdc 01 02\nvce 03\nport 5A FF 00\nup 5 irq1\nup 5 nmi\ndown 9 irq1\nbudget 100\n"},
		{"lines", changed(rom(8192), feeds(0, 0, 0), edges(
			api.Edge{Stamp: 0, Line: api.LineReset, Up: true}, api.Edge{Stamp: 0, Line: api.LineNmi}, api.Edge{Stamp: 1, Line: api.LineIrq2, Up: true}, api.Edge{Stamp: latest, Line: api.LineIrq1},
		)), "pages 1\nup 0 reset\ndown 0 nmi\nup 1 irq2\ndown 26388279066624 irq1\nbudget 100\n"},
		{"pieces", api.Script{Rom: laid(2, api.Piece{At: 0, Bytes: []byte{1}}, api.Piece{At: 2, Bytes: []byte{2, 3}}, api.Piece{At: 8191, Bytes: []byte{4, 5}}, api.Piece{At: 16383, Bytes: []byte{6}}), Budget: 7},
			"pages 2\nrom 000000 01\nrom 000002 02 03\nrom 001FFF 04 05\nrom 003FFF 06\nbudget 7\n"},
		{"a row of 15", api.Script{Rom: laid(1, api.Piece{At: 5, Bytes: counted(15)})}, "pages 1\nrom 000005 01 02 03 04 05 06 07 08 09 0A 0B 0C 0D 0E 0F\nbudget 0\n"},
		{"a row of 16", api.Script{Rom: laid(1, api.Piece{At: 5, Bytes: counted(16)})}, "pages 1\nrom 000005 01 02 03 04 05 06 07 08 09 0A 0B 0C 0D 0E 0F 10\nbudget 0\n"},
		{"a row of 16, and one more", api.Script{Rom: laid(1, api.Piece{At: 5, Bytes: counted(17)})}, "pages 1\nrom 000005 01 02 03 04 05 06 07 08 09 0A 0B 0C 0D 0E 0F 10\nrom 000015 11\nbudget 0\n"},
		{"feeds of 16, 17 and 33", api.Script{Rom: laid(1), Feeds: api.Feeds{Vdc: counted(16), Vce: counted(17), Port: make([]byte, 33)}},
			"pages 1\nvdc 01 02 03 04 05 06 07 08 09 0A 0B 0C 0D 0E 0F 10\nvce 01 02 03 04 05 06 07 08 09 0A 0B 0C 0D 0E 0F 10\nvce 11\n" +
				"port 00 00 00 00 00 00 00 00 00 00 00 00 00 00 00 00\nport 00 00 00 00 00 00 00 00 00 00 00 00 00 00 00 00\nport 00\nbudget 0\n"},
	} {
		if got, f := script.Text(c.s); got != c.want || f != (api.Fault{}) {
			t.Errorf("%s: %v: %q, not %q", c.name, f, got, c.want)
		}
	}
}

// P33.4, P2: of scripts that may not be run nothing is written, and Check's fault is told, with its place.
func TestTextFaults(t *testing.T) {
	for _, s := range []api.Script{
		{},
		changed(rom(100)),
		changed(feeds(0, 0, 10001)),
		changed(edges(api.Edge{}, api.Edge{}, api.Edge{Line: 4})),
		changed(edges(api.Edge{}, api.Edge{Stamp: -1})),
		changed(edges(make([]api.Edge, 1001)...)),
		changed(budget(-1)),
		// Too long, too; Check's fault is named first.
		changed(edges(api.Edge{Line: 255}), func(s *api.Script) { s.Rom = bytes.Repeat([]byte{1}, 128*api.PageSize) }),
	} {
		text, f := script.Text(s)
		if want := script.Check(s); text != "" || f != want || f.Errno == api.OK {
			t.Errorf("%q, %v, not %v", text, f, want)
		}
	}
}

// filled is a script whose text is as long as that: lines of one byte have 14, of two 17, the others of this one 19.
func filled(t *testing.T, size int) api.Script {
	t.Helper()
	rest := size - len("pages 128\nbudget 0\n")
	two := 0
	for ; (rest-17*two)%14 != 0; two++ {
	}
	rom, at := laid(128), 0
	for range two {
		copy(rom[at:], []byte{1, 2})
		at += 3
	}
	for range (rest - 17*two) / 14 {
		rom[at] = 3
		at += 2
	}
	return api.Script{Rom: rom}
}

// P33.4: a text of 200000 bytes is written, and of one more isn't.
func TestTextLong(t *testing.T) {
	s := filled(t, 200000)
	text, f := script.Text(s)
	if len(text) != 200000 || f != (api.Fault{}) {
		t.Fatalf("%d bytes, %v", len(text), f)
	}
	if again, f := script.Parse(text); !alike(again, s) || f != (api.Fault{}) {
		t.Errorf("read again: %v", f)
	}
	s.Budget = 10
	if text, f := script.Text(s); text != "" || f != (api.Fault{Errno: api.ErrLong}) {
		t.Errorf("one more: %d bytes, %v", len(text), f)
	}
	if text, f := script.Text(api.Script{Rom: bytes.Repeat([]byte{1}, 128*api.PageSize)}); text != "" || f != (api.Fault{Errno: api.ErrLong}) {
		t.Errorf("many more: %d bytes, %v", len(text), f)
	}
}

// chance is numbers that follow one another.
type chance uint64

func (x *chance) next(n int) int {
	*x = *x*6364136223846793005 + 1442695040888963407
	return int(uint64(*x) >> 33 % uint64(n))
}

// bytes is fewer than so many bytes, some of which are 0.
func (x *chance) bytes(n int) []byte {
	l := make([]byte, x.next(n))
	for i := range l {
		l[i] = byte(x.next(256)) * byte(x.next(2))
	}
	return l
}

// script is one that may be run.
func (x *chance) script() api.Script {
	s := api.Script{Rom: make([]byte, (1+x.next(4))*api.PageSize), Budget: int64(x.next(1 << 30))}
	for range x.next(10) {
		copy(s.Rom[x.next(len(s.Rom)):], x.bytes(60))
	}
	s.Feeds = api.Feeds{Vdc: x.bytes(50), Vce: x.bytes(50), Port: x.bytes(50)}
	stamp := int64(0)
	for range x.next(20) {
		stamp += int64(x.next(3) * x.next(1000))
		s.Edges = append(s.Edges, api.Edge{Stamp: stamp, Line: uint8(x.next(4)), Up: x.next(2) == 0})
	}
	return s
}

// P33.6: a script is read as it was written; what is written again is the same text.
func TestReadAgain(t *testing.T) {
	x := chance(5)
	for range 300 {
		s := x.script()
		text, f := script.Text(s)
		if f != (api.Fault{}) {
			t.Fatalf("%v", f)
		}
		got, f := script.Parse(text)
		if !alike(got, s) || f != (api.Fault{}) {
			t.Fatalf("%v: %s", f, text)
		}
		if again, f := script.Text(got); again != text || f != (api.Fault{}) {
			t.Errorf("%v: %q, not %q", f, again, text)
		}
	}
}

// P33.6: at the limits, too.
func TestReadAgainLimits(t *testing.T) {
	many := make([]api.Edge, 1000)
	for i := range many {
		many[i] = api.Edge{Stamp: latest, Line: uint8(i % 4), Up: i%3 == 0}
	}
	for i, s := range []api.Script{
		{Rom: laid(128), Budget: 1 << 40},
		changed(feeds(10000, 10000, 10000)),
		changed(edges(many...)),
	} {
		text, f := script.Text(s)
		if f != (api.Fault{}) {
			t.Fatalf("%d: %v", i, f)
		}
		if got, f := script.Parse(text); !alike(got, s) || f != (api.Fault{}) {
			t.Errorf("%d: %v", i, f)
		}
	}
}

// P33.4: lines have one blank between words, none ahead or behind, and at most 16 bytes; a piece's rows, but the last one, have 16.
func TestTextForm(t *testing.T) {
	x := chance(9)
	for range 100 {
		text, _ := script.Text(x.script())
		l := strings.Split(strings.TrimSuffix(text, "\n"), "\n")
		for i, line := range l {
			words := strings.Fields(line)
			if strings.Join(words, " ") != line || line == "" {
				t.Fatalf("line %d: %q", i, line)
			}
			if words[0] == "rom" && len(words) > 18 || words[0] != "rom" && len(words) > 17 {
				t.Fatalf("line %d: %q", i, line)
			}
			if words[0] != "rom" || i+1 == len(l) || !strings.HasPrefix(l[i+1], "rom") {
				continue
			}
			var at, next int
			fmt.Sscanf(words[1], "%X", &at)
			fmt.Sscanf(l[i+1], "rom %X", &next)
			if end := at + len(words) - 2; next < end || next == end && len(words) != 18 {
				t.Fatalf("line %d: %q, and %q", i, line, l[i+1])
			}
			if strings.Contains(line[10:], " 00") {
				t.Fatalf("line %d: %q", i, line)
			}
		}
	}
}
