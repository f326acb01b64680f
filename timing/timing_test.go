package timing_test

import (
	"bytes"
	"math"
	"slices"
	"strconv"
	"strings"
	"testing"

	"gannet/api"
	"gannet/bus"
	"gannet/enter"
	"gannet/hard"
	"gannet/isa"
	"gannet/opcode"
	"gannet/timing"
)

// row is instructions whose accesses are alike: words of letters, ahead of which stands by what they are there (T:, D:, B: if a branch is taken, N: for each byte of a block), and first bytes.
type row struct{ letters, bytes string }

// rows is all 256 bytes.
func rows() []row {
	return []row{
		{"FD", "0A 0B 18 1A 1B 2A 2B 33 38 3A 3B 4A 4B 58 5B 5C 62 63 6A 6B 78 7B 82 88 8A 8B 98 9A 9B A8 AA AB B8 BA BB C2 C8 CA CB D8 DB DC E2 E8 EA EB F4 F8 FB FC"},
		{"FDD", "02 22 42 54 D4"},
		{"FDP", "08 48 5A DA"},
		{"FDDU", "28 68 7A FA"},
		{"FDDUUUD", "40"},
		{"FDDUUDD", "60"},
		{"FOPPPVVD", "00"},
		{"FO", "89 A0 A2 A9 C0 C9 E0"},
		{"FO T:LDS", "09 29 49"},
		{"FO T:LDS D:D", "69"},
		{"FO D:D", "E9"},
		{"FODDD", "53"},
		{"FODD", "43 80"},
		{"FODS", "03 13 23 64 74 84 85 86 94 95 96"},
		{"FODL", "24 34 A4 A5 A6 B4 B5 B6 C4 C5 D5 E4"},
		{"FODL T:LDS", "05 15 25 35 45 55"},
		{"FODL T:LDS D:D", "65 75"},
		{"FODL D:D", "E5 F5"},
		{"FODLDS", "04 06 14 16 26 36 46 56 66 76 C6 D6 E6 F6"},
		{"FODLDDS", "07 17 27 37 47 57 67 77 87 97 A7 B7 C7 D7 E7 F7"},
		{"FOODS", "8C 8D 8E 99 9C 9D 9E"},
		{"FOODL", "2C 3C AC AD AE B9 BC BD BE CC CD D9 DD EC"},
		{"FOODL T:LDS", "0D 19 1D 2D 39 3D 4D 59 5D"},
		{"FOODL T:LDS D:D", "6D 79 7D"},
		{"FOODL D:D", "ED F9 FD"},
		{"FOODLDS", "0C 0E 1C 1E 2E 3E 4E 5E 6E 7E CE DE EE FE"},
		{"FODLLDS", "81 91 92"},
		{"FODLLDL", "A1 B1 B2 C1 D1 D2"},
		{"FODLLDL T:LDS", "01 11 12 21 31 32 41 51 52"},
		{"FODLLDL T:LDS D:D", "61 71 72"},
		{"FODLLDL D:D", "E1 F1 F2"},
		{"FO B:DD", "10 30 50 70 90 B0 D0 F0"},
		{"FOODLD B:DD", "0F 1F 2F 3F 4F 5F 6F 7F 8F 9F AF BF CF DF EF FF"},
		{"FODPPDDD", "44"},
		{"FOODPPD", "20"},
		{"FOOD", "4C"},
		{"FOODLLD", "6C 7C"},
		{"FOODDLD", "83 A3"},
		{"FOOODDLD", "93 B3"},
		{"FPPPOOOOOOD N:DLDDSD DUUUDD", "73 C3 D3 E3 F3"},
	}
}

// words is a row's words, of each of its bytes.
func words(t *testing.T) [256][]string {
	t.Helper()
	var all [256][]string
	for _, r := range rows() {
		for _, digits := range strings.Fields(r.bytes) {
			b, err := strconv.ParseUint(digits, 16, 8)
			if err != nil || all[b] != nil {
				t.Fatalf("%s stands there twice, or is no byte", digits)
			}
			all[b] = strings.Fields(r.letters)
		}
	}
	return all
}

// told is the letters that a row's words tell by facts.
func told(words []string, f timing.Facts) string {
	var text strings.Builder
	for _, word := range words {
		mark, letters, ok := strings.Cut(word, ":")
		n := 1
		switch {
		case !ok:
			letters = word
		case mark == "N":
			n = min(max(f.Bytes, 0), 65536)
		case mark == "T" && !f.T, mark == "D" && !f.D, mark == "B" && !f.Taken:
			n = 0
		}
		text.WriteString(strings.Repeat(letters, n))
	}
	return text.String()
}

// facts is all facts, with so many bytes.
func facts(n int) []timing.Facts {
	var l []timing.Facts
	for i := range 8 {
		l = append(l, timing.Facts{T: i&1 != 0, D: i&2 != 0, Taken: i&4 != 0, Bytes: n})
	}
	return l
}

// P29.1: List and Count of each byte, with all facts, alone and together.
func TestList(t *testing.T) {
	for b, words := range words(t) {
		for _, n := range []int{0, 1, 2, 7, -1, -65536} {
			for _, f := range facts(n) {
				want := told(words, f)
				if got := timing.Text(timing.List(byte(b), f)); got != want {
					t.Errorf("%#x, %v: %s, not %s", b, f, got, want)
				}
				if got := timing.Count(byte(b), f); got != len(want) {
					t.Errorf("%#x, %v: %d, not %d", b, f, got, len(want))
				}
			}
		}
	}
}

// P29.1: kinds are those of package api.
func TestListByHand(t *testing.T) {
	for _, c := range []struct {
		b    byte
		f    timing.Facts
		want []uint8
	}{
		{0xEA, timing.Facts{}, []uint8{api.Fetch, api.Dummy}},
		{0xEA, timing.Facts{T: true, D: true, Taken: true, Bytes: 9}, []uint8{api.Fetch, api.Dummy}},
		{0x69, timing.Facts{T: true, D: true}, []uint8{api.Fetch, api.Operand, api.Load, api.Dummy, api.Store, api.Dummy}},
		{0x69, timing.Facts{Taken: true, Bytes: 9}, []uint8{api.Fetch, api.Operand}},
		{0x00, timing.Facts{}, []uint8{api.Fetch, api.Operand, api.Push, api.Push, api.Push, api.Vector, api.Vector, api.Dummy}},
		{0x60, timing.Facts{}, []uint8{api.Fetch, api.Dummy, api.Dummy, api.Pull, api.Pull, api.Dummy, api.Dummy}},
		{0xE9, timing.Facts{T: true}, []uint8{api.Fetch, api.Operand}},
		{0xC9, timing.Facts{T: true, D: true}, []uint8{api.Fetch, api.Operand}},
		{0x80, timing.Facts{}, []uint8{api.Fetch, api.Operand, api.Dummy, api.Dummy}},
		{0xD0, timing.Facts{Taken: true}, []uint8{api.Fetch, api.Operand, api.Dummy, api.Dummy}},
		{0xD0, timing.Facts{T: true, D: true, Bytes: 1}, []uint8{api.Fetch, api.Operand}},
	} {
		if got := timing.List(c.b, c.f); !bytes.Equal(got, c.want) {
			t.Errorf("%#x, %v: %v, not %v", c.b, c.f, got, c.want)
		}
	}
}

// P29.1: a block's bytes are held from 0 to 65536; of what is no block they don't matter.
func TestBytes(t *testing.T) {
	for _, c := range []struct{ n, want int }{
		{0, 17}, {1, 23}, {2, 29}, {65535, 393227}, {65536, 393233}, {65537, 393233}, {1 << 40, 393233}, {math.MaxInt, 393233}, {-1, 17}, {math.MinInt, 17},
	} {
		for b, words := range words(t) {
			want := c.want
			if len(words) == 1 || words[1] != "N:DLDDSD" {
				want = len(words[0])
			}
			if got := timing.Count(byte(b), timing.Facts{Bytes: c.n}); got != want {
				t.Errorf("%#x, %d bytes: %d accesses, not %d", b, c.n, got, want)
			}
		}
		f := timing.Facts{Bytes: c.n}
		if got, want := timing.Text(timing.List(0xE3, f)), told([]string{"FPPPOOOOOOD", "N:DLDDSD", "DUUUDD"}, f); got != want {
			t.Errorf("%d bytes: other accesses, %d of them", c.n, len(got))
		}
	}
}

// P29.1, P23.2: without facts an instruction has as many accesses as opcode.Of tells.
func TestCycles(t *testing.T) {
	for b := range 256 {
		if got, want := timing.Count(byte(b), timing.Facts{}), opcode.Of(byte(b)).Cycles; got != want {
			t.Errorf("%#x: %d, not %d", b, got, want)
		}
	}
}

// at is a core at 0x5000, where bytes lie in work memory: page 1 is work memory, too, page 7 the image.
func at(t *testing.T, code []byte, p byte) (*isa.Core, *bus.Bus) {
	t.Helper()
	page, f := hard.New(api.Feeds{}, nil)
	b := bus.New(make([]byte, api.PageSize), page, 10000)
	if f != (api.Fault{}) || b.Fill([]api.Piece{{At: 0x40, Bytes: []byte{0x55}}, {At: 0x1000, Bytes: code}}) != (api.Fault{}) {
		t.Fatalf("no core: %v", f)
	}
	return isa.New(api.State{P: p, S: 0xFF, PC: 0x5000, Mpr: [8]byte{0xFF, 0xF8, 0xF8}}, b), b
}

// kinds is the kinds of accesses.
func kinds(l []api.Access) []uint8 {
	var k []uint8
	for _, x := range l {
		k = append(k, x.Kind)
	}
	return k
}

// P29.1: List is what an instruction tells access by access: with each of P, branches taken and not.
func TestListIsStep(t *testing.T) {
	seen := map[string]bool{}
	for b := range 256 {
		if opcode.Of(byte(b)).Mode == opcode.Block {
			continue
		}
		for p := range 256 {
			// The distance leads far from what is behind.
			code := []byte{byte(b), 0x40, 0x10}
			if opcode.Of(byte(b)).Mode == opcode.Rel {
				code = []byte{byte(b), 0x10}
			}
			c, line := at(t, code, byte(p))
			c.Step()
			f := timing.Facts{T: p&api.FlagT != 0, D: p&api.FlagD != 0, Taken: c.State().PC > 0x5010 && c.State().PC < 0x5020}
			want := timing.List(byte(b), f)
			if got := kinds(line.Trace()); !bytes.Equal(got, want) {
				t.Fatalf("%#x, P %#x: %s, not %s", b, p, timing.Text(got), timing.Text(want))
			}
			if line.Trace()[0].Kind != api.Fetch {
				t.Errorf("%#x: the first one isn't a Fetch", b)
			}
			if f.Taken {
				seen[opcode.Of(byte(b)).Name] = true
			}
		}
	}
	// Eight by flags, eight by bits that 0x55 has, or hasn't, BRA, and BSR.
	if len(seen) != 18 {
		t.Errorf("branches taken: %v", seen)
	}
}

// P29.1: List is what a block tells, of few bytes.
func TestListIsBlock(t *testing.T) {
	for _, b := range []byte{0x73, 0xC3, 0xD3, 0xE3, 0xF3} {
		for n := 1; n < 20; n++ {
			c, line := at(t, []byte{b, 0x40, 0x20, 0x80, 0x20, byte(n), 0}, 0xFF)
			c.Step()
			if got, want := kinds(line.Trace()), timing.List(b, timing.Facts{Bytes: n}); !bytes.Equal(got, want) {
				t.Errorf("%#x, %d bytes: %s, not %s", b, n, timing.Text(got), timing.Text(want))
			}
		}
	}
}

// P29.2: the kinds of entries, and of kinds that there are none; Longest.
func TestEntry(t *testing.T) {
	for kind := range 256 {
		want := ""
		switch kind {
		case api.ByReset:
			want = "DDDDDVVD"
		case api.ByNmi, api.ByTimer, api.ByIrq1, api.ByIrq2:
			want = "DDPPPVVD"
		}
		got := timing.Entry(uint8(kind))
		if timing.Text(got) != want {
			t.Errorf("%d: %s, not %s", kind, timing.Text(got), want)
		}
		var plan []uint8
		for _, x := range enter.Plan(uint8(kind), api.State{}) {
			plan = append(plan, x.Kind)
		}
		if !bytes.Equal(got, plan) {
			t.Errorf("%d: %v, not %v, as it is entered", kind, got, plan)
		}
	}
	if got := timing.Longest(); got != 393233 {
		t.Errorf("Longest: %d", got)
	}
}

// P29.3: Writes of each kind, and of others.
func TestWrites(t *testing.T) {
	for kind := range 256 {
		if got, want := timing.Writes(uint8(kind)), kind == 4 || kind == 5; got != want {
			t.Errorf("%d: %v", kind, got)
		}
	}
}

// P29.3: a letter each, ? of no kind.
func TestText(t *testing.T) {
	for _, c := range []struct {
		l    []uint8
		want string
	}{
		{nil, ""},
		{[]uint8{}, ""},
		{[]uint8{api.Fetch, api.Operand, api.Dummy, api.Load, api.Store, api.Push, api.Pull, api.Vector}, "FODLSPUV"},
		{[]uint8{7, 6, 5, 4, 3, 2, 1, 0}, "VUPSLDOF"},
		{[]uint8{8}, "?"},
		{[]uint8{255, 0, 128, 9}, "?F??"},
	} {
		if got := timing.Text(c.l); got != c.want {
			t.Errorf("%v: %q, not %q", c.l, got, c.want)
		}
	}
	for kind := range 256 {
		want := "?"
		if kind < 8 {
			want = "FODLSPUV"[kind : kind+1]
		}
		if got := timing.Text([]uint8{uint8(kind)}); got != want {
			t.Errorf("%d: %s", kind, got)
		}
	}
}

// P29.3: how long an entry has to wait at most.
func TestBehind(t *testing.T) {
	for _, c := range []struct {
		l    []uint8
		want int
	}{
		{nil, 8},
		{[]uint8{}, 8},
		{[]uint8{0xEA}, 10},
		{[]uint8{0xEA, 0xEA, 0xEA}, 10},
		{[]uint8{0x69}, 14},
		{[]uint8{0x61, 0xEA}, 19},
		{[]uint8{0xEA, 0x61}, 19},
		{[]uint8{0xE9}, 11},
		{[]uint8{0xD0}, 12},
		{[]uint8{0xFF}, 16},
		{[]uint8{0x00, 0x0F, 0x10}, 16},
		{[]uint8{0x93, 0xEA, 0x40}, 16},
		{[]uint8{0x73}, 393241},
		{[]uint8{0xEA, 0xF3, 0x61}, 393241},
	} {
		if got := timing.Behind(c.l); got != c.want {
			t.Errorf("%#x: %d, not %d", c.l, got, c.want)
		}
	}
	var all []uint8
	for b, words := range words(t) {
		most := len(told(words, timing.Facts{T: true, D: true, Taken: true, Bytes: 65536}))
		if got := timing.Behind([]uint8{byte(b)}); got != most+8 {
			t.Errorf("%#x: %d, not %d", b, got, most+8)
		}
		all = append(all, byte(b))
	}
	if got := timing.Behind(all); got != timing.Longest()+8 {
		t.Errorf("all: %d", got)
	}
	if got := timing.Behind(slices.Repeat(all, 10000)); got != timing.Longest()+8 {
		t.Errorf("all, over and over: %d", got)
	}
}

// P29.4: an instruction takes at least two accesses, at most Longest; the first one is a Fetch, no other one is.
func TestFirst(t *testing.T) {
	for b := range 256 {
		for _, n := range []int{0, 1, 65536, math.MaxInt, -1} {
			for _, f := range facts(n) {
				l := timing.List(byte(b), f)
				if len(l) < 2 || len(l) > timing.Longest() || len(l) != timing.Count(byte(b), f) {
					t.Errorf("%#x, %v: %d accesses", b, f, len(l))
				}
				if slices.Index(l, api.Fetch) != 0 || slices.Contains(l[1:], api.Fetch) {
					t.Errorf("%#x, %v: a Fetch elsewhere", b, f)
				}
			}
		}
	}
}

// P3, P5: what is answered is the caller's, what is handed in stays as it is.
func TestStays(t *testing.T) {
	for b := range 256 {
		f := timing.Facts{T: true, D: true, Taken: true, Bytes: 3}
		l := timing.List(byte(b), f)
		was := slices.Clone(l)
		clear(l[:cap(l)])
		if got := timing.List(byte(b), f); !bytes.Equal(got, was) {
			t.Errorf("%#x: %v, not %v", b, got, was)
		}
		e := timing.Entry(byte(b))
		was = slices.Clone(e)
		clear(e[:cap(e)])
		if got := timing.Entry(byte(b)); !bytes.Equal(got, was) {
			t.Errorf("entry %d: %v, not %v", b, got, was)
		}
	}
	held := []uint8{0xEA, 0x73, 9, 200, 77}
	l := held[:3]
	timing.Behind(l)
	timing.Text(l)
	if !bytes.Equal(held, []uint8{0xEA, 0x73, 9, 200, 77}) {
		t.Errorf("handed in: %v", held)
	}
}

// Examples of the chapter (P29.1, P29.2).
func TestExamples(t *testing.T) {
	if got := timing.Text(timing.List(0xA5, timing.Facts{})); got != "FODL" {
		t.Errorf("0xA5: %s", got)
	}
	if got := timing.Text(timing.List(0x69, timing.Facts{T: true, D: true})); got != "FOLDSD" {
		t.Errorf("0x69: %s", got)
	}
	if got := timing.Text(timing.Entry(api.ByNmi)); got != "DDPPPVVD" {
		t.Errorf("ByNmi: %s", got)
	}
}
