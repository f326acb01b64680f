package phys_test

import (
	"fmt"
	"math"
	"slices"
	"strings"
	"testing"

	"gannet/api"
	"gannet/phys"
)

const (
	all  = 1 << 21
	last = 255 * 8192
)

// kinds are all kinds of places there are.
var kinds = []uint8{api.InRom, api.InRam, api.InOpen, api.InVdc, api.InVce, api.InPsg, api.InTimer, api.InPort, api.InIrq}

// places are places of a bank, those of 8192 and above among them.
var places = []uint16{0, 1, 2, 1023, 1024, 4095, 4096, 8190, 8191, 8192, 8193, 8192 + 1024, 16383, 16384, 32767, 32768, 57344, 65534, 65535}

// beyond are addresses that count as others: their distances from what they count as.
var beyond = []uint32{all, 2 * all, 1 << 30, math.MaxUint32 - all + 1}

// edges are addresses at which something begins, and their neighbours.
func edges() []uint32 {
	var l []uint32
	for bank := range uint32(256) {
		l = append(l, bank*8192, bank*8192+1, bank*8192+4096, bank*8192+8191)
	}
	for unit := range uint32(8) {
		l = append(l, last+unit*1024, last+unit*1024+1, last+unit*1024+1023)
	}
	return l
}

// kind is what is at a place of a bank, bank by bank, and unit by unit.
func kind(bank, off int) uint8 {
	units := []uint8{api.InVdc, api.InVce, api.InPsg, api.InTimer, api.InPort, api.InIrq, api.InOpen, api.InOpen}
	switch {
	case bank <= 127:
		return api.InRom
	case bank == 255:
		return units[off/1024]
	case bank >= 248 && bank <= 251:
		return api.InRam
	}
	return api.InOpen
}

// P3.1: an address is 8192 times its bank, and its place modulo 8192.
func TestAddr(t *testing.T) {
	for bank := range 256 {
		for _, off := range places {
			want := 8192*bank + int(off)%8192
			if got := phys.Addr(byte(bank), off); got != uint32(want) {
				t.Errorf("Addr(%#x, %#x): %#x", bank, off, got)
			}
		}
	}
	if phys.Addr(255, 65535) != all-1 || phys.Addr(1, 8192) != 8192 {
		t.Error("places of 8192 and above")
	}
}

// P3.1, P3.6: an address has a bank and a place, which lead back to it; it counts modulo 2^21.
func TestBankAndOff(t *testing.T) {
	for a := range uint32(all) {
		bank, off := phys.Bank(a), phys.Off(a)
		if uint32(bank) != a/8192 || uint32(off) != a%8192 || phys.Addr(bank, off) != a {
			t.Fatalf("%#x: bank %#x, place %#x", a, bank, off)
		}
	}
	for _, a := range edges() {
		for _, more := range beyond {
			if phys.Bank(a+more) != phys.Bank(a) || phys.Off(a+more) != phys.Off(a) {
				t.Errorf("%#x and %#x more", a, more)
			}
		}
	}
	if phys.Bank(math.MaxUint32) != 255 || phys.Off(math.MaxUint32) != 8191 {
		t.Error("the last address of all")
	}
}

// P3.2: what is at an address is told by its bank, in the last one by its place.
func TestWhere(t *testing.T) {
	for _, a := range edges() {
		want := kind(int(a/8192), int(a%8192))
		for _, more := range append(beyond, 0) {
			if got := phys.Where(a + more); got != want {
				t.Errorf("Where(%#x): %d", a+more, got)
			}
		}
	}
	for off := range uint32(8192) {
		if got := phys.Where(last + off); got != kind(255, int(off)) {
			t.Errorf("Where(%#x): %d", last+off, got)
		}
	}
}

// P3.2: the first and the last address of each kind, and those ahead and behind.
func TestWhereEdges(t *testing.T) {
	for a, want := range map[uint32]uint8{
		0x000000: api.InRom, 0x0FFFFF: api.InRom,
		0x100000: api.InOpen, 0x1EFFFF: api.InOpen,
		0x1F0000: api.InRam, 0x1F7FFF: api.InRam,
		0x1F8000: api.InOpen, 0x1FDFFF: api.InOpen,
		0x1FE000: api.InVdc, 0x1FE3FF: api.InVdc,
		0x1FE400: api.InVce, 0x1FE7FF: api.InVce,
		0x1FE800: api.InPsg, 0x1FEBFF: api.InPsg,
		0x1FEC00: api.InTimer, 0x1FEFFF: api.InTimer,
		0x1FF000: api.InPort, 0x1FF3FF: api.InPort,
		0x1FF400: api.InIrq, 0x1FF7FF: api.InIrq,
		0x1FF800: api.InOpen, 0x1FFFFF: api.InOpen,
		0x200000: api.InRom, 0x3FFFFF: api.InOpen, 0xFFFFE000: api.InVdc,
	} {
		if got := phys.Where(a); got != want {
			t.Errorf("Where(%#x): %d", a, got)
		}
	}
}

// P3.3: two devices alone take an extra cycle.
func TestExtra(t *testing.T) {
	check := func(a uint32) {
		where := kind(int(a%all/8192), int(a%8192))
		if got := phys.Extra(a); got != (where == api.InVdc || where == api.InVce) {
			t.Errorf("Extra(%#x): %v", a, got)
		}
	}
	for off := range uint32(8192) {
		check(last + off)
	}
	for _, a := range edges() {
		check(a)
		check(a + all)
	}
}

// P3.3: a device's registers come again and again; elsewhere there are none.
func TestReg(t *testing.T) {
	counts := map[uint8]uint32{api.InVdc: 4, api.InVce: 8, api.InPsg: 16, api.InTimer: 2, api.InPort: 1, api.InIrq: 4}
	check := func(a uint32) {
		want := -1
		if n := counts[kind(int(a%all/8192), int(a%8192))]; n > 0 {
			want = int(a % n)
		}
		if got := phys.Reg(a); got != want {
			t.Errorf("Reg(%#x): %d", a, got)
		}
	}
	for off := range uint32(8192) {
		check(last + off)
		check(last + off + all)
	}
	for _, a := range edges() {
		check(a)
	}
}

// P3.3: the last register of each unit, and the first one again.
func TestRegEdges(t *testing.T) {
	for a, want := range map[uint32]int{
		0x1FE003: 3, 0x1FE004: 0, 0x1FE3FF: 3,
		0x1FE407: 7, 0x1FE408: 0, 0x1FE7FF: 7,
		0x1FE80F: 15, 0x1FE810: 0, 0x1FEBFF: 15,
		0x1FEC01: 1, 0x1FEC02: 0, 0x1FEFFF: 1,
		0x1FF000: 0, 0x1FF001: 0, 0x1FF3FF: 0,
		0x1FF403: 3, 0x1FF404: 0, 0x1FF7FF: 3,
		0x1FF800: -1, 0x1FFFFF: -1, 0x1FDFFF: -1, 0x000003: -1, 0x1F0003: -1, 0x100003: -1,
	} {
		if got := phys.Reg(a); got != want {
			t.Errorf("Reg(%#x): %d", a, got)
		}
	}
}

// P3.4, P3.6: an address is written as its bank and its place, and read again.
func TestText(t *testing.T) {
	for _, a := range edges() {
		want := fmt.Sprintf("%02X:%04X", a/8192, a%8192)
		for _, more := range append(beyond, 0) {
			if got := phys.Text(a + more); got != want {
				t.Errorf("Text(%#x): %s", a+more, got)
			}
		}
		if got, e := phys.Of(want); got != a || e != api.OK {
			t.Errorf("Of(%s): %#x, %d", want, got, e)
		}
	}
	for a := uint32(0); a < all; a += 37 {
		if got, e := phys.Of(phys.Text(a)); got != a || e != api.OK {
			t.Fatalf("Of(Text(%#x)): %#x, %d", a, got, e)
		}
	}
}

// P3.4: a text that is no address' text is ErrForm, and 0 (P2).
func TestOfErrors(t *testing.T) {
	for _, s := range []string{
		"", ":", "F", "FF", "FF:", ":0C00", "0C00", "1FEC00",
		"F:0C00", "FFF:0C00", "FF:C00", "FF:00C00", "0FF:0C00", "1FF:0C00",
		"FF:2000", "FF:8000", "FF:FFFF", "00:2000", "00:10000",
		"ff:0C00", "Ff:0C00", "FF:0c00", "FF:1FFf", "aB:0000",
		"FF;0C00", "FF 0C00", "FF.0C00", "FF0C00:", "FF0:C00", "F:F0C00", "FF::0C00", "FF:0C:0", "FF:0C0:",
		" FF:0C00", "FF:0C00 ", "FF: C00", "FF:0C00\n", "\x00F:0C00", "FF:0C0\x00",
		"GG:0C00", "FF:0C0G", "-1:0C00", "+F:0C00", "FF:-001", "0x:0000", "FF:0x00", "FF:0_00",
		"\xff\xff:\xff\xff\xff\xff", "\u00e9:0000", "\uff11\uff11:0000",
		strings.Repeat("0", 1000), "FF:" + strings.Repeat("0", 1000), strings.Repeat(":", 1000),
	} {
		if got, e := phys.Of(s); got != 0 || e != api.ErrForm {
			t.Errorf("Of(%q): %#x, %d", s, got, e)
		}
	}
}

// P3.4: an address' text with any one byte of it changed is one just if all digits are, and the place is below 8192.
func TestOfChanged(t *testing.T) {
	may := [7]string{"0123456789ABCDEF", "0123456789ABCDEF", ":", "01", "0123456789ABCDEF", "0123456789ABCDEF", "0123456789ABCDEF"}
	for _, s := range []string{"00:0000", "FF:0C00", "A9:1FFF"} {
		for i := range len(s) {
			for c := range 256 {
				b := []byte(s)
				b[i] = byte(c)
				want := api.ErrForm
				if strings.IndexByte(may[i], byte(c)) >= 0 {
					want = api.OK
				}
				got, e := phys.Of(string(b))
				if e != want || e != api.OK && got != 0 || e == api.OK && phys.Text(got) != string(b) {
					t.Errorf("Of(%q): %#x, %d", b, got, e)
				}
			}
		}
	}
}

// P3.5: the rows of addresses of each kind.
func TestSpan(t *testing.T) {
	for where, want := range map[uint8][][2]uint32{
		api.InRom:   {{0, 1 << 20}},
		api.InRam:   {{0x1F0000, 32768}},
		api.InOpen:  {{0x100000, 0xF0000}, {0x1F8000, 0x6000}, {0x1FF800, 2048}},
		api.InVdc:   {{0x1FE000, 1024}},
		api.InVce:   {{0x1FE400, 1024}},
		api.InPsg:   {{0x1FE800, 1024}},
		api.InTimer: {{0x1FEC00, 1024}},
		api.InPort:  {{0x1FF000, 1024}},
		api.InIrq:   {{0x1FF400, 1024}},
	} {
		if got := phys.Span(where); !slices.Equal(got, want) {
			t.Errorf("Span(%d): %#x", where, got)
		}
	}
}

// P3.5: of a kind that there isn't there are no rows.
func TestSpanOfNone(t *testing.T) {
	for where := len(kinds); where < 256; where++ {
		if got := phys.Span(uint8(where)); len(got) != 0 {
			t.Errorf("Span(%d): %#x", where, got)
		}
	}
}

// P3.5: each address lies in one row of its kind, and in no other row.
func TestSpanIsWhere(t *testing.T) {
	in := make([]int, all)
	for _, where := range kinds {
		for _, r := range phys.Span(where) {
			for a := r[0]; a < r[0]+r[1]; a++ {
				in[a]++
				if phys.Where(a) != where {
					t.Fatalf("%#x lies in a row of kind %d", a, where)
				}
			}
		}
	}
	for a, n := range in {
		if n != 1 {
			t.Fatalf("%#x lies in %d rows", a, n)
		}
	}
}

// P3, P5: what was answered is the caller's, and is answered again.
func TestSpanKeeps(t *testing.T) {
	first := phys.Span(api.InOpen)
	want := slices.Clone(first)
	second := phys.Span(api.InOpen)
	second[0] = [2]uint32{1, 1}
	if !slices.Equal(first, want) || !slices.Equal(phys.Span(api.InOpen), want) {
		t.Error("rows that were answered are changed")
	}
}

// The examples of the chapter.
func TestExamples(t *testing.T) {
	a := phys.Addr(0xFF, 0x0C00)
	if a != 0x1FEC00 || phys.Where(a) != api.InTimer || phys.Text(a) != "FF:0C00" {
		t.Errorf("Addr(0xFF, 0x0C00): %#x", a)
	}
	if got := phys.Span(api.InRam); len(got) != 1 || got[0] != [2]uint32{0x1F0000, 32768} {
		t.Errorf("Span(InRam): %#x", got)
	}
}
