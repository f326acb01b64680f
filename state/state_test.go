package state_test

import (
	"bytes"
	"fmt"
	"reflect"
	"regexp"
	"strings"
	"testing"

	"gannet/api"
	"gannet/state"
)

// names is all registers' names, in the chapter's order.
var names = []string{"A", "X", "Y", "S", "P", "PC", "M0", "M1", "M2", "M3", "M4", "M5", "M6", "M7", "L", "F"}

// strange is names of which there is no register.
var strange = []string{"", "a", "x", "pc", "Pc", "m0", "l", "f", "M", "M8", "M9", "M00", "M-1", "AX", " A", "A ", "A\x00", "Last", "Fast", "Mpr", "B", "PCL", "7"}

// zero is the line of registers that are all 0.
const zero = "A=00 X=00 Y=00 S=00 P=........ PC=0000 M=00.00.00.00.00.00.00.00 L=00 slow"

// every is registers no two of which are alike.
var every = api.State{
	A: 0x12, X: 0x34, Y: 0x56, S: 0xFD, P: 0xA5, PC: 0xBCDE, Mpr: [8]byte{0xFF, 0xF8, 0x01, 0x02, 0x7E, 0x80, 0x0A, 0xA0}, Last: 0xC7, Fast: true,
}

// everyLine and everyBytes are what those are written as.
const everyLine = "A=12 X=34 Y=56 S=FD P=N.T..I.C PC=BCDE M=FF.F8.01.02.7E.80.0A.A0 L=C7 fast"

var everyBytes = []byte{0x12, 0x34, 0x56, 0xFD, 0xA5, 0xDE, 0xBC, 0xFF, 0xF8, 0x01, 0x02, 0x7E, 0x80, 0x0A, 0xA0, 0xC7, 1}

// form is how lines look that are read.
var form = regexp.MustCompile(`\AA=[0-9A-F]{2} X=[0-9A-F]{2} Y=[0-9A-F]{2} S=[0-9A-F]{2} P=[N.][V.][T.][B.][D.][I.][Z.][C.] ` +
	`PC=[0-9A-F]{4} M=([0-9A-F]{2}\.){7}[0-9A-F]{2} L=[0-9A-F]{2} (fast|slow)\z`)

// put writes a register, whatever its name is, as a field of s.
func put(s *api.State, name string, v uint16) {
	fields := map[string]*byte{"A": &s.A, "X": &s.X, "Y": &s.Y, "S": &s.S, "P": &s.P, "L": &s.Last}
	switch {
	case name == "PC":
		s.PC = v
	case name == "F":
		s.Fast = v == 1
	case name[0] == 'M':
		s.Mpr[name[1]-'0'] = byte(v)
	default:
		*fields[name] = byte(v)
	}
}

// only is registers of which one alone is v, all others are 0.
func only(name string, v uint16) api.State {
	var s api.State
	put(&s, name, v)
	return s
}

// most is the greatest number that a register may have.
func most(name string) uint16 {
	switch name {
	case "PC":
		return 65535
	case "F":
		return 1
	}
	return 255
}

// many calls f with registers of all kinds.
func many(f func(s api.State)) {
	f(api.State{})
	f(every)
	for _, name := range names {
		for _, v := range []uint16{1, 2, 15, 16, 127, 128, 255, 256, 0x1234, 65535} {
			if v <= most(name) {
				f(only(name, v))
			}
		}
	}
	n := uint32(7)
	next := func() byte {
		n = n*1664525 + 1013904223
		return byte(n >> 24)
	}
	for range 300 {
		s := api.State{A: next(), X: next(), Y: next(), S: next(), P: next(), PC: uint16(next())<<8 | uint16(next()), Last: next(), Fast: next() > 127}
		for i := range s.Mpr {
			s.Mpr[i] = next()
		}
		f(s)
	}
}

// written is the line of registers, by the library's own means.
func written(s api.State) string {
	p := ""
	for i, c := range "NVTBDIZC" {
		if int(s.P)>>(7-i)%2 == 0 {
			c = '.'
		}
		p += string(c)
	}
	speed := map[bool]string{false: "slow", true: "fast"}[s.Fast]
	m := strings.ReplaceAll(fmt.Sprintf("% X", s.Mpr[:]), " ", ".")
	return fmt.Sprintf("A=%02X X=%02X Y=%02X S=%02X P=%s PC=%04X M=%s L=%02X %s", s.A, s.X, s.Y, s.S, p, s.PC, m, s.Last, speed)
}

// P25.1: registers that are written here; each one alone at its place, PC's low byte first.
func TestBytes(t *testing.T) {
	if got := state.Bytes(every); !bytes.Equal(got, everyBytes) {
		t.Errorf("all together: % x", got)
	}
	if got := state.Bytes(api.State{}); !bytes.Equal(got, make([]byte, 17)) {
		t.Errorf("all 0: % x", got)
	}
	places := map[string]int{"A": 0, "X": 1, "Y": 2, "S": 3, "P": 4, "PC": 5, "L": 15, "F": 16}
	for i := range 8 {
		places["M"+string(rune('0'+i))] = 7 + i
	}
	for _, name := range names {
		want := make([]byte, 17)
		want[places[name]] = 1
		if got := state.Bytes(only(name, 1)); !bytes.Equal(got, want) {
			t.Errorf("%s alone: % x", name, got)
		}
	}
	want := make([]byte, 17)
	want[5], want[6] = 0x34, 0x12
	if got := state.Bytes(only("PC", 0x1234)); !bytes.Equal(got, want) {
		t.Errorf("PC: % x", got)
	}
}

// P25.1: registers of bytes that are written here, each of the 17 alone.
func TestOf(t *testing.T) {
	if got, e := state.Of(everyBytes); got != every || e != api.OK {
		t.Errorf("all together: %v, %d", got, e)
	}
	alone := []api.State{
		{A: 1}, {X: 1}, {Y: 1}, {S: 1}, {P: 1}, {PC: 1}, {PC: 256}, {Mpr: [8]byte{1}}, {Mpr: [8]byte{0, 1}}, {Mpr: [8]byte{0, 0, 1}}, {Mpr: [8]byte{3: 1}},
		{Mpr: [8]byte{4: 1}}, {Mpr: [8]byte{5: 1}}, {Mpr: [8]byte{6: 1}}, {Mpr: [8]byte{7: 1}}, {Last: 1}, {Fast: true},
	}
	for i, want := range alone {
		b := make([]byte, 17)
		b[i] = 1
		if got, e := state.Of(b); got != want || e != api.OK {
			t.Errorf("byte %d alone: %v, %d", i, got, e)
		}
	}
}

// P25.1, P2: too few bytes, too many, and last ones that are neither 0 nor 1; how many there are is looked at first.
func TestOfWrong(t *testing.T) {
	for n := range 40 {
		want := api.OK
		if n < 17 {
			want = api.ErrShort
		} else if n > 17 {
			want = api.ErrLong
		}
		if got, e := state.Of(make([]byte, n)); got != (api.State{}) || e != want {
			t.Errorf("%d bytes of 0: %v, %d", n, got, e)
		}
		if want == api.OK {
			want = api.ErrForm
		}
		if got, e := state.Of(bytes.Repeat([]byte{255}, n)); got != (api.State{}) || e != want {
			t.Errorf("%d bytes of 255: %v, %d", n, got, e)
		}
	}
	if got, e := state.Of(nil); got != (api.State{}) || e != api.ErrShort {
		t.Errorf("nil: %v, %d", got, e)
	}
	for last := range 256 {
		b := bytes.Clone(everyBytes)
		b[16] = byte(last)
		got, e := state.Of(b)
		if last > 1 && (got != (api.State{}) || e != api.ErrForm) {
			t.Errorf("a last byte %d: %v, %d", last, got, e)
		}
		if last < 2 && (e != api.OK || got.Fast != (last == 1) || got.Last != 0xC7) {
			t.Errorf("a last byte %d: %v, %d", last, got, e)
		}
	}
}

// P25.2: lines that are written here.
func TestText(t *testing.T) {
	for line, s := range map[string]api.State{
		zero:      {},
		everyLine: every,
		"A=0F X=00 Y=00 S=00 P=........ PC=0000 M=00.00.00.00.00.00.00.00 L=00 slow": {A: 15},
		"A=00 X=A0 Y=00 S=00 P=........ PC=0000 M=00.00.00.00.00.00.00.00 L=00 slow": {X: 0xA0},
		"A=00 X=00 Y=01 S=00 P=........ PC=0000 M=00.00.00.00.00.00.00.00 L=00 slow": {Y: 1},
		"A=00 X=00 Y=00 S=FF P=........ PC=0000 M=00.00.00.00.00.00.00.00 L=00 slow": {S: 255},
		"A=00 X=00 Y=00 S=00 P=.....I.. PC=0000 M=00.00.00.00.00.00.00.00 L=00 slow": {P: api.FlagI},
		"A=00 X=00 Y=00 S=00 P=NVTBDIZC PC=0000 M=00.00.00.00.00.00.00.00 L=00 slow": {P: 255},
		"A=00 X=00 Y=00 S=00 P=........ PC=E000 M=00.00.00.00.00.00.00.00 L=00 slow": {PC: 0xE000},
		"A=00 X=00 Y=00 S=00 P=........ PC=000B M=00.00.00.00.00.00.00.00 L=00 slow": {PC: 11},
		"A=00 X=00 Y=00 S=00 P=........ PC=0000 M=FF.00.00.00.00.00.00.00 L=00 slow": {Mpr: [8]byte{255}},
		"A=00 X=00 Y=00 S=00 P=........ PC=0000 M=00.F8.00.00.00.00.00.09 L=00 slow": {Mpr: [8]byte{1: 0xF8, 7: 9}},
		"A=00 X=00 Y=00 S=00 P=........ PC=0000 M=00.00.00.00.00.00.00.00 L=C0 slow": {Last: 0xC0},
		"A=00 X=00 Y=00 S=00 P=........ PC=0000 M=00.00.00.00.00.00.00.00 L=00 fast": {Fast: true},
	} {
		if got := state.Text(s); got != line {
			t.Errorf("%v: %q", s, got)
		}
		if got, e := state.Read(line); got != s || e != api.OK {
			t.Errorf("%q: %v, %d", line, got, e)
		}
	}
}

// P25.2: lines of many registers, by another way of writing them.
func TestTextMany(t *testing.T) {
	many(func(s api.State) {
		if got, want := state.Text(s), written(s); got != want {
			t.Errorf("%v: %q, not %q", s, got, want)
		}
	})
}

// reads asks whether a line is read just if it looks as lines do, and whether it is what is written of what is read.
func reads(t *testing.T, line string) {
	t.Helper()
	got, e := state.Read(line)
	switch {
	case form.MatchString(line) && (e != api.OK || written(got) != line):
		t.Errorf("%q: %v, %d", line, got, e)
	case !form.MatchString(line) && (e != api.ErrForm || got != (api.State{})):
		t.Errorf("%q: %v, %d, though it is no line", line, got, e)
	}
}

// P25.2, P2: lines that aren't whole, and such as have more; nothing is read of them.
func TestReadLength(t *testing.T) {
	for _, line := range []string{zero, everyLine} {
		for n := range len(line) {
			reads(t, line[:n])
			reads(t, line[n+1:])
			reads(t, line[:n]+line[n+1:])
			reads(t, line[:n]+line[n:n+1]+line[n:])
			reads(t, line[:n]+" "+line[n:])
		}
		for _, more := range []string{" ", "0", "\n", "\x00", line, "slow", "t"} {
			reads(t, line+more)
			reads(t, more+line)
		}
	}
	if got, e := state.Read(""); got != (api.State{}) || e != api.ErrForm {
		t.Errorf("the empty line: %v, %d", got, e)
	}
}

// P25.2: each byte of a line as any other one.
func TestReadEachByte(t *testing.T) {
	for _, line := range []string{zero, everyLine} {
		for i := range len(line) {
			for c := range 256 {
				b := []byte(line)
				b[i] = byte(c)
				reads(t, string(b))
			}
		}
	}
}

// P25.2, P2: lines that are wrong in one thing.
func TestReadWrong(t *testing.T) {
	for _, c := range [][2]string{
		{"A=12", "a=12"}, {"P=", "p="}, {"PC=", "pc="}, {"PC=", "Pc="}, {"M=", "m="}, {"L=", "l="}, // small letters ahead
		{"FD", "fd"}, {"FD", "Fd"}, {"BCDE", "bcde"}, {"BCDE", "BCDe"}, {"FF.F8", "ff.F8"}, {"7E", "7e"}, {"A0", "a0"}, {"C7", "c7"}, // small digits
		{"fast", "FAST"}, {"fast", "Fast"}, {"fast", "slot"}, {"fast", "1"}, {"fast", "quick"}, {"fast", "fas"}, {"fast", ""}, {" fast", ""}, // the speed
		{"A=12 X=34", "X=34 A=12"}, {"X=34 Y=56", "Y=56 X=34"}, {"P=N.T..I.C PC=BCDE", "PC=BCDE P=N.T..I.C"}, {"L=C7 fast", "fast L=C7"}, // another order
		{"N.T..I.C", "n.t..i.c"}, {"N.T..I.C", "C.I..T.N"}, {"N.T..I.C", "NTIC...."}, {"N.T..I.C", "N T  I C"}, {"N.T..I.C", "10100101"},
		{"N.T..I.C", "A5"}, {"N.T..I.C", "N.T..I.X"}, {"N.T..I.C", "NN......"}, {"N.T..I.C", ""}, // flags
		{" X", "  X"}, {" P=", "  P="}, {" fast", "  fast"}, {" X", "\tX"}, {" X", ""}, {" X", ", X"}, {"=", " = "}, // blanks
		{"FF.F8", "FF,F8"}, {"FF.F8", "FF F8"}, {"FF.F8", "FFF8"}, {"FF.F8", "FF..F8"}, {".A0", ""}, {".A0", ".A0.00"}, {"M=FF", "M=.FF"}, // points
		{"A=12", "A=2"}, {"A=12", "A=012"}, {"A=12", "A=1G"}, {"A=12", "A=+1"}, {"A=12", "A=-1"}, {"A=12", "A=$12"}, {"BCDE", "BCD"}, {"BCDE", "0BCDE"}, // digits
		{"A=12", "B=12"}, {"A=12", "A:12"}, {"A=12", "A12"}, {"L=C7", "L=é"}, {"L=C7", "L=７"},
	} {
		line := strings.Replace(everyLine, c[0], c[1], 1)
		if line == everyLine {
			t.Fatalf("%q isn't in the line", c[0])
		}
		if got, e := state.Read(line); got != (api.State{}) || e != api.ErrForm {
			t.Errorf("%q: %v, %d", line, got, e)
		}
	}
}

// P25.3: names, in order; the row is the caller's.
func TestNames(t *testing.T) {
	first := state.Names()
	if !reflect.DeepEqual(first, names) {
		t.Fatalf("%q", first)
	}
	for i := range first {
		first[i] = "none"
	}
	_ = append(first[:3], "none")
	if got := state.Names(); !reflect.DeepEqual(got, names) {
		t.Errorf("behind a change: %q", got)
	}
	if v, ok := state.Get(every, "PC"); v != 0xBCDE || !ok {
		t.Errorf("behind a change PC is %#x, %v", v, ok)
	}
	if got := state.Other(every, api.State{}); !reflect.DeepEqual(got, names) {
		t.Errorf("behind a change others are %q", got)
	}
}

// P25.3: alike, each register alone, each two of them, on either side.
func TestOther(t *testing.T) {
	many(func(s api.State) {
		if got := state.Other(s, s); len(got) != 0 {
			t.Errorf("%v: %q", s, got)
		}
	})
	for i, one := range names {
		for _, two := range names[i:] {
			want := []string{one}
			if two != one {
				want = append(want, two)
			}
			for _, from := range []api.State{{}, every} {
				to := from
				change(&to, one)
				if two != one {
					change(&to, two)
				}
				if got := state.Other(from, to); !reflect.DeepEqual(got, want) {
					t.Errorf("%s, %s: %q", one, two, got)
				}
				if got := state.Other(to, from); !reflect.DeepEqual(got, want) {
					t.Errorf("%s, %s the other way: %q", one, two, got)
				}
			}
		}
	}
}

// change makes a register another one.
func change(s *api.State, name string) {
	v, _ := state.Get(*s, name)
	put(s, name, v^1)
}

// P25.3: several registers, and all of them; PC's bytes, each alone; the row is the caller's.
func TestOtherByHand(t *testing.T) {
	for _, c := range []struct {
		a, b api.State
		want []string
	}{
		{api.State{}, every, names},
		{every, api.State{}, names},
		{api.State{PC: 0x0100}, api.State{PC: 0x0200}, []string{"PC"}},
		{api.State{PC: 0x0001}, api.State{PC: 0x0002}, []string{"PC"}},
		{api.State{A: 1, X: 2}, api.State{A: 2, X: 1}, []string{"A", "X"}},
		{api.State{Fast: true, S: 255, Mpr: [8]byte{3: 1, 7: 1}}, api.State{P: 4}, []string{"S", "P", "M3", "M7", "F"}},
		{api.State{Mpr: [8]byte{1, 2, 3, 4, 5, 6, 7, 8}}, api.State{Mpr: [8]byte{8, 7, 6, 5, 4, 3, 2, 1}}, names[6:14]},
		{api.State{Last: 3, A: 255}, api.State{Last: 4, A: 255}, []string{"L"}},
	} {
		for range 2 {
			got := state.Other(c.a, c.b)
			if !reflect.DeepEqual(got, c.want) {
				t.Errorf("%v, %v: %q", c.a, c.b, got)
			}
			for i := range got {
				got[i] = "none"
			}
		}
	}
	if got := state.Names(); !reflect.DeepEqual(got, names) {
		t.Errorf("names became %q", got)
	}
}

// P25.3: each register is got by its name.
func TestGet(t *testing.T) {
	want := []uint16{0x12, 0x34, 0x56, 0xFD, 0xA5, 0xBCDE, 0xFF, 0xF8, 0x01, 0x02, 0x7E, 0x80, 0x0A, 0xA0, 0xC7, 1}
	for i, name := range names {
		if got, ok := state.Get(every, name); got != want[i] || !ok {
			t.Errorf("%s: %#x, %v", name, got, ok)
		}
		if got, ok := state.Get(api.State{}, name); got != 0 || !ok {
			t.Errorf("%s of all 0: %#x, %v", name, got, ok)
		}
		for _, other := range names {
			for _, v := range []uint16{1, most(other)} {
				if got, ok := state.Get(only(other, v), name); !ok || (got == v) != (name == other) || got != 0 && name != other {
					t.Errorf("%s, if %s alone is %d: %d, %v", name, other, v, got, ok)
				}
			}
		}
	}
}

// P25.3, P2: names of which there is no register.
func TestStrange(t *testing.T) {
	for _, name := range strange {
		if got, ok := state.Get(every, name); got != 0 || ok {
			t.Errorf("Get of %q: %d, %v", name, got, ok)
		}
		for _, v := range []uint16{0, 1, 255, 256, 65535} {
			if got, e := state.Set(every, name, v); got != (api.State{}) || e != api.ErrName {
				t.Errorf("Set of %q, %d: %v, %d", name, v, got, e)
			}
		}
	}
}

// P25.3, P25.4, P2: each register is set, as far as it may be; no other one is changed.
func TestSet(t *testing.T) {
	for _, name := range names {
		for _, v := range []uint16{0, 1, 2, 127, 128, 254, 255, 256, 257, 0x8000, 0xFF01, 65535} {
			for _, from := range []api.State{{}, every} {
				got, e := state.Set(from, name, v)
				if v > most(name) {
					if got != (api.State{}) || e != api.ErrRange {
						t.Errorf("%s, %d: %v, %d", name, v, got, e)
					}
					continue
				}
				want := from
				put(&want, name, v)
				if got != want || e != api.OK {
					t.Errorf("%s, %d: %v, %d", name, v, got, e)
				}
				if back, ok := state.Get(got, name); back != v || !ok {
					t.Errorf("%s, %d: got %d, %v", name, v, back, ok)
				}
				if others := state.Other(from, got); len(others) > 1 || len(others) == 1 && others[0] != name {
					t.Errorf("%s, %d: changed are %q", name, v, others)
				}
			}
		}
	}
}

// P25.4: registers are read as they were written, as bytes, as a line, and one by one.
func TestBack(t *testing.T) {
	many(func(s api.State) {
		if got, e := state.Of(state.Bytes(s)); got != s || e != api.OK {
			t.Errorf("bytes of %v: %v, %d", s, got, e)
		}
		if got, e := state.Read(state.Text(s)); got != s || e != api.OK {
			t.Errorf("line of %v: %v, %d", s, got, e)
		}
		var made api.State
		for _, name := range state.Names() {
			v, _ := state.Get(s, name)
			made, _ = state.Set(made, name, v)
		}
		if made != s {
			t.Errorf("one by one of %v: %v", s, made)
		}
	})
}

// P3: bytes that are handed in stay as they are, and spare room isn't read; bytes that are answered are the caller's.
func TestStays(t *testing.T) {
	room := append(bytes.Clone(everyBytes), 9, 9, 9)
	b := room[:17]
	if got, e := state.Of(b); got != every || e != api.OK {
		t.Errorf("with spare room: %v, %d", got, e)
	}
	if got, e := state.Of(room[:16]); got != (api.State{}) || e != api.ErrShort {
		t.Errorf("a last byte in spare room: %v, %d", got, e)
	}
	if !bytes.Equal(room, append(bytes.Clone(everyBytes), 9, 9, 9)) {
		t.Errorf("what was handed in became % x", room)
	}
	one, two := state.Bytes(every), state.Bytes(every)
	for i := range one {
		one[i] = 0x77
	}
	_ = append(one, 0x77)
	if !bytes.Equal(two, everyBytes) || !bytes.Equal(state.Bytes(every), everyBytes) {
		t.Errorf("answers aren't apart: % x", two)
	}
}

// The chapter's example.
func TestExamples(t *testing.T) {
	if got := state.Text(api.State{}); got != zero {
		t.Errorf("%q", got)
	}
}
