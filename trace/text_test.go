package trace_test

import (
	"fmt"
	"strings"
	"testing"

	"gannet/api"
	"gannet/trace"
)

// P36.1: each part of a line, by hand.
func TestLine(t *testing.T) {
	for _, c := range []struct {
		a    api.Access
		want string
	}{
		{api.Access{Stamp: 12, Kind: api.Load, Addr: 0x1FE000, Data: 5}, "12 L FF:0000 r 05"},
		{api.Access{}, "0 F 00:0000 r 00"},
		{api.Access{Kind: api.Fetch, Data: 0xA9}, "0 F 00:0000 r A9"},
		{api.Access{Stamp: 3, Kind: api.Operand}, "3 O 00:0000 r 00"},
		{api.Access{Stamp: 10, Kind: api.Dummy}, "10 D 00:0000 r 00"},
		{api.Access{Stamp: 100, Kind: api.Load}, "100 L 00:0000 r 00"},
		{api.Access{Kind: api.Store, Write: true, Addr: 0x1F0010, Data: 0xFA}, "0 S F8:0010 w FA"},
		{api.Access{Kind: api.Push, Write: true, Addr: 0x1F01FD, Data: 0x0B}, "0 P F8:01FD w 0B"},
		{api.Access{Kind: api.Pull, Addr: 0x1F01FD}, "0 U F8:01FD r 00"},
		{api.Access{Kind: api.Vector, Addr: 0x1FFE}, "0 V 00:1FFE r 00"},
		// Whether it writes doesn't hang on its kind.
		{api.Access{Kind: api.Fetch, Write: true}, "0 F 00:0000 w 00"},
		{api.Access{Kind: api.Store}, "0 S 00:0000 r 00"},
		{api.Access{Stamp: latest, Kind: 7, Addr: 1<<21 - 1, Write: true, Data: 0xFF}, "1125899906842624 V FF:1FFF w FF"},
		{api.Access{Stamp: latest - 1, Addr: 0x2000}, "1125899906842623 F 01:0000 r 00"},
	} {
		if got := trace.Line(c.a); got != c.want {
			t.Errorf("%v: %q, not %q", c.a, got, c.want)
		}
		if got, e := trace.Read(c.want); got != c.a || e != api.OK {
			t.Errorf("%q: %v, %d", c.want, got, e)
		}
	}
}

// P36.1: nothing of such as may not be packed.
func TestLineRefused(t *testing.T) {
	for _, a := range refused() {
		if got := trace.Line(a); got != "" {
			t.Errorf("%v: %q", a, got)
		}
	}
}

// P36.1, P36.5: what is written is read again.
func TestReadAgain(t *testing.T) {
	l := packable()
	x := chance(1)
	for range 200 {
		l = append(l, x.row(10)...)
	}
	seen := map[string]api.Access{}
	for _, a := range l {
		line := trace.Line(a)
		if got, e := trace.Read(line); got != a || e != api.OK || line == "" {
			t.Errorf("%v: %q, %v, %d", a, line, got, e)
		}
		if other, ok := seen[line]; ok && other != a {
			t.Errorf("%v and %v: %q", a, other, line)
		}
		seen[line] = a
	}
}

// P36.1: whatever isn't as it is written is no line.
func TestReadRefused(t *testing.T) {
	for _, line := range []string{
		"", " ", "    ", "12", "12 L", "12 L FF:0000", "12 L FF:0000 r", "12 L FF:0000 r ", "12 L FF:0000 r 05 ", " 12 L FF:0000 r 05",
		"12  L FF:0000 r 05", "12 L  FF:0000 r 05", "12 L FF:0000  r 05", "12 L FF:0000 r  05", "12 L FF:0000 r 05 00", "12 L FF:0000 r 05\n", "12\tL FF:0000 r 05",
		"12 L FF:0000 r05", "12L FF:0000 r 05", "L FF:0000 r 05", "12 FF:0000 r 05", "12 L r 05", "12 L FF:0000 05", " L FF:0000 r 05", "12  FF:0000 r 05", "12 L  r 05", "12 L FF:0000  05",
		// Stamps.
		"012 L FF:0000 r 05", "00 L FF:0000 r 05", "+12 L FF:0000 r 05", "-12 L FF:0000 r 05", "-0 L FF:0000 r 05", "1A L FF:0000 r 05", "0x12 L FF:0000 r 05", "1_2 L FF:0000 r 05", "12. L FF:0000 r 05", "x L FF:0000 r 05",
		"1125899906842625 L FF:0000 r 05", "9223372036854775807 L FF:0000 r 05", "18446744073709551628 L FF:0000 r 05", "100000000000000000000000000012 L FF:0000 r 05",
		// Letters.
		"12 l FF:0000 r 05", "12 ? FF:0000 r 05", "12 X FF:0000 r 05", "12 3 FF:0000 r 05", "12 LL FF:0000 r 05", "12 LD FF:0000 r 05", "12 Load FF:0000 r 05", "12 FODLSPUV FF:0000 r 05",
		"12 L FF:0000 R 05", "12 L FF:0000 W 05", "12 L FF:0000 x 05", "12 L FF:0000 rr 05", "12 L FF:0000 rw 05", "12 L FF:0000 ww 05",
		// Places.
		"12 L FF0000 r 05", "12 L ff:0000 r 05", "12 L FF:2000 r 05", "12 L FF:FFFF r 05", "12 L F:0000 r 05", "12 L FF:000 r 05", "12 L 0FF:0000 r 05", "12 L FF:00000 r 05", "12 L 100:0000 r 05", "12 L FF:0000: r 05", "12 L :FF:0000 r 05", "12 L FF:00G0 r 05", "12 L 1FE000 r 05", "12 L : r 05",
		// Bytes.
		"12 L FF:0000 r 5", "12 L FF:0000 r 005", "12 L FF:0000 r 105", "12 L FF:0000 r 0a", "12 L FF:0000 r 0G", "12 L FF:0000 r $05", "12 L FF:0000 r -5", "12 L FF:0000 r 100000005",
	} {
		if a, e := trace.Read(line); e != api.ErrForm || a != (api.Access{}) {
			t.Errorf("%q: %v, %d", line, a, e)
		}
	}
}

// P36.1: one byte of a line changed, gone, or more than there was: it is another access' line, or none.
func TestReadChanged(t *testing.T) {
	const bytes = " 0129ACFGLSVrwx:?-\x00\xFF"
	for _, a := range packable() {
		line := trace.Line(a)
		for i := range len(line) + 1 {
			var l []string
			for _, b := range []byte(bytes) {
				l = append(l, line[:i]+string([]byte{b})+line[i:])
				if i < len(line) {
					l = append(l, line[:i]+string([]byte{b})+line[i+1:])
				}
			}
			if i < len(line) {
				l = append(l, line[:i]+line[i+1:], line[:i])
			}
			for _, other := range l {
				got, e := trace.Read(other)
				if e == api.OK && trace.Line(got) != other || e != api.OK && (e != api.ErrForm || got != (api.Access{})) {
					t.Errorf("%q: %v, %d", other, got, e)
				}
			}
		}
	}
}

// P36.1: a line has five words, with one blank between, and none ahead or behind.
func TestLineForm(t *testing.T) {
	for _, a := range packable() {
		line := trace.Line(a)
		words := strings.Fields(line)
		if len(words) != 5 || strings.Join(words, " ") != line {
			t.Errorf("%q", line)
		}
		want := []string{fmt.Sprint(a.Stamp), "FODLSPUV"[a.Kind : a.Kind+1], fmt.Sprintf("%02X:%04X", a.Addr>>13, a.Addr&0x1FFF), map[bool]string{false: "r", true: "w"}[a.Write], fmt.Sprintf("%02X", a.Data)}
		if strings.Join(want, " ") != line {
			t.Errorf("%q, not %q", line, want)
		}
	}
}
