package flags_test

import (
	"strings"
	"testing"

	"gannet/api"
	"gannet/flags"
)

// letters is what flags are written as, from the highest bit to the lowest one.
const letters = "NVTBDIZC"

// rows calls f with every byte.
func rows(f func(p byte)) {
	for p := range 256 {
		f(byte(p))
	}
}

// has tells whether a byte has the flag of a letter.
func has(p byte, letter string) bool {
	n := 7 - strings.Index(letters, letter)
	return int(p)/(1<<n)%2 == 1
}

// row is flags, from the highest bit to the lowest one.
func row(f flags.Flags) [8]bool { return [8]bool{f.N, f.V, f.T, f.B, f.D, f.I, f.Z, f.C} }

// want is a byte of flags that are told by their letters: those of some are set, or clear, all others are as in p.
func want(p byte, set, clear string) byte {
	out := 0
	for _, c := range letters {
		letter := string(c)
		bit := has(p, letter) || strings.Contains(set, letter)
		if strings.Contains(clear, letter) {
			bit = false
		}
		if out *= 2; bit {
			out++
		}
	}
	return byte(out)
}

// P20.1: each flag is that of its bit, and the byte is made of them again.
func TestOf(t *testing.T) {
	rows(func(p byte) {
		f := flags.Of(p)
		for i, set := range row(f) {
			if set != has(p, letters[i:i+1]) {
				t.Errorf("%#x: %c is %v", p, letters[i], set)
			}
		}
		if got := f.Byte(); got != p {
			t.Errorf("%#x: back %#x", p, got)
		}
	})
}

// P20.1: each flag alone, by the constants of package api.
func TestOfAlone(t *testing.T) {
	for p, f := range map[byte]flags.Flags{
		0: {}, api.FlagN: {N: true}, api.FlagV: {V: true}, api.FlagT: {T: true}, api.FlagB: {B: true},
		api.FlagD: {D: true}, api.FlagI: {I: true}, api.FlagZ: {Z: true}, api.FlagC: {C: true},
		api.FlagN | api.FlagC: {N: true, C: true}, 255: {true, true, true, true, true, true, true, true},
	} {
		if got := flags.Of(p); got != f || f.Byte() != p {
			t.Errorf("%#x: %v, %#x", p, got, f.Byte())
		}
	}
}

// P20.1: flags of two bytes are alike just if the bytes are.
func TestCompared(t *testing.T) {
	rows(func(p byte) {
		rows(func(q byte) {
			if same := flags.Of(p) == flags.Of(q); same != (p == q) {
				t.Errorf("%#x, %#x: alike %v", p, q, same)
			}
		})
	})
}

// P20.1: of several flags it is enough that one is set; of none none is.
func TestIs(t *testing.T) {
	rows(func(p byte) {
		rows(func(flag byte) {
			one := false
			for _, c := range letters {
				one = one || has(p, string(c)) && has(flag, string(c))
			}
			if got := flags.Is(p, flag); got != one {
				t.Errorf("Is(%#x, %#x): %v", p, flag, got)
			}
		})
	})
	for _, c := range []struct {
		p, flag byte
		want    bool
	}{
		{0, 0, false}, {255, 0, false}, {0, 255, false}, {1, 255, true}, {api.FlagN, api.FlagN, true}, {api.FlagN, api.FlagC, false},
		{api.FlagC, api.FlagN | api.FlagC, true}, {255 - api.FlagT, api.FlagT, false},
	} {
		if got := flags.Is(c.p, c.flag); got != c.want {
			t.Errorf("Is(%#x, %#x): %v", c.p, c.flag, got)
		}
	}
}

// P20.1: all of the flags are set, or clear; all others stay.
func TestSet(t *testing.T) {
	rows(func(p byte) {
		rows(func(flag byte) {
			on, off := flags.Set(p, flag, true), flags.Set(p, flag, false)
			for _, c := range letters {
				letter := string(c)
				wantOn, wantOff := has(p, letter), has(p, letter)
				if has(flag, letter) {
					wantOn, wantOff = true, false
				}
				if has(on, letter) != wantOn || has(off, letter) != wantOff {
					t.Errorf("Set(%#x, %#x): %#x, %#x", p, flag, on, off)
				}
			}
		})
	})
	for _, c := range []struct {
		p, flag byte
		on      bool
		want    byte
	}{
		{0, 0, true, 0}, {255, 0, false, 255}, {0, 255, true, 255}, {255, 255, false, 0}, {0, api.FlagT, true, 0x20}, {0xFF, api.FlagT, false, 0xDF},
		{0x0F, api.FlagN | api.FlagC, true, 0x8F}, {0x8F, api.FlagN | api.FlagC, false, 0x0E}, {0x80, api.FlagN, true, 0x80}, {0, api.FlagN, false, 0},
	} {
		if got := flags.Set(c.p, c.flag, c.on); got != c.want {
			t.Errorf("Set(%#x, %#x, %v): %#x", c.p, c.flag, c.on, got)
		}
	}
}

// P20.2: N and Z of a result; all others stay.
func TestResult(t *testing.T) {
	rows(func(p byte) {
		rows(func(v byte) {
			w := want(p, "", "NZ")
			if v == 0 {
				w = want(p, "Z", "N")
			}
			if v > 127 {
				w = want(p, "N", "Z")
			}
			if got := flags.Result(p, v); got != w {
				t.Errorf("Result(%#x, %#x): %#x, not %#x", p, v, got, w)
			}
		})
	})
	for _, c := range [][3]byte{
		{0, 0, 0x02}, {0, 1, 0}, {0, 127, 0}, {0, 128, 0x80}, {0, 255, 0x80},
		{255, 0, 0x7F}, {255, 1, 0x7D}, {255, 127, 0x7D}, {255, 128, 0xFD}, {255, 255, 0xFD},
	} {
		if got := flags.Result(c[0], c[1]); got != c[2] {
			t.Errorf("Result(%d, %d): %#x, not %#x", c[0], c[1], got, c[2])
		}
	}
}

// P20.3: eight bytes, a letter of each flag that is set, a point of all others.
func TestText(t *testing.T) {
	rows(func(p byte) {
		got := flags.Text(p)
		if len(got) != 8 {
			t.Fatalf("%#x: %q", p, got)
		}
		for i, c := range letters {
			w := "."
			if has(p, string(c)) {
				w = string(c)
			}
			if got[i:i+1] != w {
				t.Errorf("%#x: %q", p, got)
			}
		}
	})
	for p, w := range map[byte]string{
		0: "........", 255: "NVTBDIZC", api.FlagN: "N.......", api.FlagV: ".V......", api.FlagT: "..T.....", api.FlagB: "...B....",
		api.FlagD: "....D...", api.FlagI: ".....I..", api.FlagZ: "......Z.", api.FlagC: ".......C", 0x24: "..T..I..",
	} {
		if got := flags.Text(p); got != w {
			t.Errorf("%#x: %q, not %q", p, got, w)
		}
	}
}

// P20.3: what is written is read again.
func TestRead(t *testing.T) {
	rows(func(p byte) {
		if got, e := flags.Read(flags.Text(p)); e != api.OK || got != p {
			t.Errorf("%q: %#x, %d", flags.Text(p), got, e)
		}
	})
	for s, w := range map[string]byte{"........": 0, "NVTBDIZC": 255, "N......C": 0x81, ".V..D...": 0x48} {
		if got, e := flags.Read(s); e != api.OK || got != w {
			t.Errorf("%q: %#x, %d", s, got, e)
		}
	}
}

// P20.3, P2: what is no byte's text is none, and its byte is 0.
func TestReadWrong(t *testing.T) {
	for _, s := range []string{
		"", ".", "N", "NVTBDIZ", ".......", "VTBDIZC", "NVTBDIZCC", ".........", "NVTBDIZC.", "NVTBDIZC ", " NVTBDIZC", "NVTBDIZC\n", "NVTBDIZC........", strings.Repeat(".", 100000),
		"nvtbdizc", "n.......", ".......c", "NVTBDIZc", "NvTBDIZC", "V.......", ".N......", "C......N", "CZIDBTVN", "N......V", "..B.....", "NNNNNNNN", ".......Z",
		"        ", "--------", "NVTBDIZ-", "N,......", "N\x00......", "\xFF.......", "....\x80...", "NV1BDIZC", "NVTBDIZÇ", "NVTBDIÇ", "Ṅ.....", "\u2026.....", "00000000", "0x81",
	} {
		if got, e := flags.Read(s); e != api.ErrForm || got != 0 {
			t.Errorf("%.20q: %#x, %d", s, got, e)
		}
	}
}

// P20.3: at each place each byte but two is wrong.
func TestReadEachByte(t *testing.T) {
	for _, p := range []byte{0, 255, 0x5A} {
		for i := range 8 {
			for c := range 256 {
				b := []byte(flags.Text(p))
				b[i] = byte(c)
				w, e := byte(0), api.ErrForm
				switch byte(c) {
				case '.':
					w, e = want(p, "", letters[i:i+1]), api.OK
				case letters[i]:
					w, e = want(p, letters[i:i+1], ""), api.OK
				}
				if got, errno := flags.Read(string(b)); got != w || errno != e {
					t.Errorf("%q: %#x, %d, not %#x, %d", b, got, errno, w, e)
				}
			}
		}
	}
}

// P20.4: what is pushed has T clear, and B just if it is broken.
func TestPushed(t *testing.T) {
	rows(func(p byte) {
		if got, w := flags.Pushed(p, true), want(p, "B", "T"); got != w {
			t.Errorf("Pushed(%#x, true): %#x, not %#x", p, got, w)
		}
		if got, w := flags.Pushed(p, false), want(p, "", "BT"); got != w {
			t.Errorf("Pushed(%#x, false): %#x, not %#x", p, got, w)
		}
	})
	for p, w := range map[byte][2]byte{0: {0x10, 0x00}, 255: {0xDF, 0xCF}, 0x20: {0x10, 0x00}, 0x10: {0x10, 0x00}, 0x81: {0x91, 0x81}} {
		if got := [2]byte{flags.Pushed(p, true), flags.Pushed(p, false)}; got != w {
			t.Errorf("Pushed(%#x): %#x, not %#x", p, got, w)
		}
	}
}

// P20.4: what is pulled has B clear; T is as it was pulled.
func TestPulled(t *testing.T) {
	rows(func(b byte) {
		if got, w := flags.Pulled(b), want(b, "", "B"); got != w {
			t.Errorf("Pulled(%#x): %#x, not %#x", b, got, w)
		}
	})
	for b, w := range map[byte]byte{0: 0, 255: 0xEF, 0x10: 0, 0x20: 0x20, 0x30: 0x20} {
		if got := flags.Pulled(b); got != w {
			t.Errorf("Pulled(%#x): %#x, not %#x", b, got, w)
		}
	}
}

// P20.4: an instruction begins with T clear; whether it was set is told.
func TestBegun(t *testing.T) {
	rows(func(p byte) {
		if got, was := flags.Begun(p); got != want(p, "", "T") || was != has(p, "T") {
			t.Errorf("Begun(%#x): %#x, %v", p, got, was)
		}
	})
	for p, w := range map[byte]byte{0: 0, 0x20: 0, 255: 0xDF, 0xDF: 0xDF} {
		if got, was := flags.Begun(p); got != w || was != (p != w) {
			t.Errorf("Begun(%#x): %#x, %v", p, got, was)
		}
	}
}

// P20.4: behind an entry I is set; B, D and T are clear.
func TestEntered(t *testing.T) {
	rows(func(p byte) {
		if got, w := flags.Entered(p), want(p, "I", "BDT"); got != w {
			t.Errorf("Entered(%#x): %#x, not %#x", p, got, w)
		}
	})
	for p, w := range map[byte]byte{0: 0x04, 255: 0xC7, 0x38: 0x04, 0x04: 0x04, 0xC3: 0xC7} {
		if got := flags.Entered(p); got != w {
			t.Errorf("Entered(%#x): %#x, not %#x", p, got, w)
		}
	}
}

// P20.4: a branch is taken, if one of the flags is set, or if none is.
func TestGoes(t *testing.T) {
	rows(func(p byte) {
		rows(func(flag byte) {
			one := false
			for _, c := range letters {
				one = one || has(p, string(c)) && has(flag, string(c))
			}
			if set, clear := flags.Goes(p, flag, true), flags.Goes(p, flag, false); set != one || clear == one {
				t.Errorf("Goes(%#x, %#x): %v, %v", p, flag, set, clear)
			}
		})
	})
	for _, c := range []struct {
		p, flag byte
		on      bool
		want    bool
	}{
		{api.FlagZ, api.FlagZ, true, true}, {api.FlagZ, api.FlagZ, false, false}, {0, api.FlagZ, true, false}, {0, api.FlagZ, false, true},
		{255, 0, true, false}, {255, 0, false, true}, {0, 255, false, true}, {1, 255, true, true}, {1, 255, false, false},
	} {
		if got := flags.Goes(c.p, c.flag, c.on); got != c.want {
			t.Errorf("Goes(%#x, %#x, %v): %v", c.p, c.flag, c.on, got)
		}
	}
}

// P20.5: what is pulled of what was pushed is P, but for T and B.
func TestPulledOfPushed(t *testing.T) {
	rows(func(p byte) {
		for _, broken := range []bool{false, true} {
			if got, w := flags.Pulled(flags.Pushed(p, broken)), want(p, "", "TB"); got != w {
				t.Errorf("%#x, %v: %#x, not %#x", p, broken, got, w)
			}
			if again, f := flags.Of(flags.Pulled(flags.Pushed(p, broken))), flags.Of(p); again != (flags.Flags{N: f.N, V: f.V, D: f.D, I: f.I, Z: f.Z, C: f.C}) {
				t.Errorf("%#x, %v: %v", p, broken, again)
			}
		}
	})
}

// The examples of the chapter.
func TestExamples(t *testing.T) {
	if got := flags.Text(0x81); got != "N......C" {
		t.Errorf("Text(0x81): %q", got)
	}
	if got := flags.Result(0, 0x80); got != 0x80 {
		t.Errorf("Result(0, 0x80): %#x", got)
	}
	if got := flags.Pushed(0x20, true); got != 0x10 {
		t.Errorf("Pushed(0x20, true): %#x", got)
	}
}
