package mmu_test

import (
	"math"
	"slices"
	"testing"

	"gannet/mmu"
	"gannet/phys"
)

// model is pages, as the chapter tells them: a list of banks, and what was moved last.
type model struct {
	banks [8]byte
	last  byte
}

// set moves a byte to the pages of a mask.
func (k *model) set(mask, b byte) {
	for n := range k.banks {
		if mask>>n%2 == 1 {
			k.banks[n] = b
		}
	}
	k.last = b
}

// get moves a byte from the lowest page of a mask.
func (k *model) get(mask byte) byte {
	for n := 7; n >= 0; n-- {
		if mask>>n%2 == 1 {
			k.last = k.banks[n]
		}
	}
	// The lowest one was the last to be taken.
	return k.last
}

// at is the physical address of a logical one.
func (k *model) at(a int) uint32 { return uint32(k.banks[a/8192])*8192 + uint32(a%8192) }

// seen is all logical addresses of a physical one, found by trying each.
func (k *model) seen(a uint32) []uint16 {
	var l []uint16
	for n := range 65536 {
		if k.at(n) == a%(1<<21) {
			l = append(l, uint16(n))
		}
	}
	return l
}

// is tells whether pages are as a model's, and whether each page's first and last place is where its bank says.
func is(m *mmu.Mmu, k model) bool {
	if m == nil || m.Banks() != k.banks || m.Last() != k.last {
		return false
	}
	for n := range 8 {
		for _, a := range []int{n * 8192, n*8192 + 1, n*8192 + 5000, n*8192 + 8191} {
			if m.Phys(uint16(a)) != k.at(a) {
				return false
			}
		}
	}
	return true
}

// banks is some pages: all alike, all apart, several alike, at the edges.
func banks() [][8]byte {
	return [][8]byte{
		{}, {255, 255, 255, 255, 255, 255, 255, 255}, {0, 1, 2, 3, 4, 5, 6, 7}, {255, 0xF8, 0, 1, 0xF8, 127, 128, 0}, {7, 6, 5, 4, 3, 2, 1, 0},
		{0, 255, 0, 255, 0, 255, 0, 255}, {9, 9, 9, 9, 9, 9, 9, 10}, {10, 9, 9, 9, 9, 9, 9, 9}, {1, 2, 4, 8, 16, 32, 64, 128},
	}
}

// P18.1: of a new one all pages are in bank 0, and 0 was moved last.
func TestNew(t *testing.T) {
	m := mmu.New()
	if !is(m, model{}) || m.Get(0) != 0 {
		t.Errorf("a new one: %v", m.Banks())
	}
	for a := range 65536 {
		if got := m.Phys(uint16(a)); got != uint32(a%8192) {
			t.Fatalf("Phys(%#x): %#x", a, got)
		}
	}
	if mmu.New() == mmu.New() {
		t.Error("two new ones are one")
	}
}

// P18.1, P3: those that are told; the caller's array is its own.
func TestOf(t *testing.T) {
	for _, l := range banks() {
		for _, last := range []byte{0, 1, 7, 255} {
			held := l
			m := mmu.Of(l, last)
			if !is(m, model{held, last}) {
				t.Fatalf("%v, %d: %v, %d", l, last, m.Banks(), m.Last())
			}
			for n := range l {
				l[n] ^= 0x55
			}
			if !is(m, model{held, last}) {
				t.Errorf("%v: the caller changes it", held)
			}
			l = held
			m.Set(0xFF, 99)
			m.Reset()
			if l != held {
				t.Errorf("%v is changed", held)
			}
		}
	}
}

// P18.1: each place of the bank of its page.
func TestPhys(t *testing.T) {
	for _, l := range banks() {
		m, k := mmu.Of(l, 3), model{l, 3}
		for a := range 65536 {
			if got := m.Phys(uint16(a)); got != k.at(a) || got != phys.Addr(l[a>>13], uint16(a)) {
				t.Fatalf("%v, Phys(%#x): %#x, not %#x", l, a, got, k.at(a))
			}
		}
		if !is(m, k) {
			t.Errorf("%v: changed", l)
		}
	}
	for _, c := range []struct {
		l    [8]byte
		a    uint16
		want uint32
	}{
		{[8]byte{}, 0, 0}, {[8]byte{}, 0xFFFF, 0x1FFF}, {[8]byte{255}, 0, 0x1FE000}, {[8]byte{255}, 0x1FFF, 0x1FFFFF}, {[8]byte{255}, 0x2000, 0},
		{[8]byte{7: 255}, 0xE000, 0x1FE000}, {[8]byte{7: 255}, 0xFFFF, 0x1FFFFF}, {[8]byte{7: 255}, 0xDFFF, 0x1FFF}, {[8]byte{1: 0xF8}, 0x2005, 0x1F0005},
	} {
		if got := mmu.Of(c.l, 0).Phys(c.a); got != c.want {
			t.Errorf("%v, Phys(%#x): %#x, not %#x", c.l, c.a, got, c.want)
		}
	}
}

// P18.1: each bank, in each page.
func TestPhysBanks(t *testing.T) {
	for n := range 8 {
		for b := range 256 {
			k := model{banks: [8]byte{9, 9, 9, 9, 9, 9, 9, 9}, last: 1}
			k.banks[n] = byte(b)
			if !is(mmu.Of(k.banks, 1), k) {
				t.Errorf("bank %d in page %d", b, n)
			}
		}
	}
}

// P18.2, P18.5: the pages of each mask are in the bank; all others stay; it was moved last.
func TestSet(t *testing.T) {
	for _, l := range banks() {
		for mask := range 256 {
			for _, b := range []byte{0, 1, 9, 0xF8, 255} {
				m, k := mmu.Of(l, 77), model{l, 77}
				m.Set(byte(mask), b)
				k.set(byte(mask), b)
				if !is(m, k) || m.Last() != b || m.Get(0) != b {
					t.Fatalf("%v, Set(%#x, %d): %v, %d", l, mask, b, m.Banks(), m.Last())
				}
			}
		}
	}
	for mask, want := range map[byte][8]byte{
		0x00: {1, 2, 3, 4, 5, 6, 7, 8}, 0x01: {99, 2, 3, 4, 5, 6, 7, 8}, 0x80: {1, 2, 3, 4, 5, 6, 7, 99}, 0x82: {1, 99, 3, 4, 5, 6, 7, 99},
		0x3C: {1, 2, 99, 99, 99, 99, 7, 8}, 0xFF: {99, 99, 99, 99, 99, 99, 99, 99},
	} {
		m := mmu.Of([8]byte{1, 2, 3, 4, 5, 6, 7, 8}, 0)
		if m.Set(mask, 99); m.Banks() != want || m.Last() != 99 {
			t.Errorf("Set(%#x, 99): %v, %d", mask, m.Banks(), m.Last())
		}
	}
}

// P18.2: the bank of the lowest page of each mask, which was moved last from then on; all pages stay.
func TestGet(t *testing.T) {
	for _, l := range banks() {
		for mask := range 256 {
			m, k := mmu.Of(l, 77), model{l, 77}
			if got, want := m.Get(byte(mask)), k.get(byte(mask)); got != want || !is(m, k) || m.Get(0) != want {
				t.Fatalf("%v, Get(%#x): %d, not %d; %v, %d", l, mask, got, want, m.Banks(), m.Last())
			}
		}
	}
	for mask, want := range map[byte]byte{0x00: 77, 0x01: 1, 0x02: 2, 0x04: 3, 0x08: 4, 0x10: 5, 0x20: 6, 0x40: 7, 0x80: 8, 0xFF: 1, 0x82: 2, 0xC0: 7, 0x28: 4, 0xF0: 5} {
		m := mmu.Of([8]byte{1, 2, 3, 4, 5, 6, 7, 8}, 77)
		if got := m.Get(mask); got != want || m.Last() != want {
			t.Errorf("Get(%#x): %d, not %d", mask, got, want)
		}
	}
}

// P18.2: one behind the other, whatever is moved, to and from.
func TestAsTold(t *testing.T) {
	m, k := mmu.New(), model{}
	x := uint32(5)
	for i := range 20000 {
		x = x*1664525 + 1013904223
		mask, b := byte(x>>16), byte(x>>8)
		switch x >> 29 {
		case 0, 1, 2:
			m.Set(mask, b)
			k.set(mask, b)
		case 3:
			m.Set(1<<(b%8), mask)
			k.set(1<<(b%8), mask)
		case 4, 5:
			if got, want := m.Get(mask), k.get(mask); got != want {
				t.Fatalf("step %d: %d, not %d", i, got, want)
			}
		case 6:
			if got := m.Get(0); got != k.last {
				t.Fatalf("step %d: last %d, not %d", i, got, k.last)
			}
		default:
			m.Reset()
			k.banks[7] = 0
		}
		if !is(m, k) {
			t.Fatalf("step %d: %v, %d, not %v", i, m.Banks(), m.Last(), k)
		}
	}
}

// P18.2: page 7 is in bank 0; all else stays.
func TestReset(t *testing.T) {
	for _, l := range banks() {
		for _, last := range []byte{0, 1, 255} {
			m, k := mmu.Of(l, last), model{l, last}
			k.banks[7] = 0
			for range 2 {
				if m.Reset(); !is(m, k) {
					t.Errorf("%v, %d: %v, %d", l, last, m.Banks(), m.Last())
				}
			}
		}
	}
}

// P18.3, P3: the banks that are answered are the caller's.
func TestBanks(t *testing.T) {
	for _, l := range banks() {
		m := mmu.Of(l, 5)
		got := m.Banks()
		if got != l || m.Last() != 5 {
			t.Fatalf("%v: %v, %d", l, got, m.Last())
		}
		for n := range got {
			got[n] ^= 0xFF
		}
		if !is(m, model{l, 5}) {
			t.Errorf("%v: the caller changes it", l)
		}
		got = m.Banks()
		m.Set(0xFF, 200)
		if m.Get(1); got != l {
			t.Errorf("%v: banks that were answered are changed", l)
		}
	}
}

// P18.3: the logical addresses of each bank that some page has, and of such as none has, rising.
func TestSeen(t *testing.T) {
	for _, l := range banks() {
		m, k := mmu.Of(l, 5), model{l, 5}
		for _, bank := range []uint32{0, 1, 2, 7, 8, 9, 127, 128, 200, 0xF8, 254, 255} {
			for _, off := range []uint32{0, 1, 4095, 8191} {
				a := bank<<13 | off
				want := k.seen(a)
				for _, over := range []uint32{0, 1 << 21, 5 << 21, 0xFFE00000} {
					got := m.Seen(a + over)
					if !slices.Equal(got, want) || !slices.IsSorted(got) {
						t.Fatalf("%v, Seen(%#x): %v, not %v", l, a+over, got, want)
					}
				}
			}
		}
		if !is(m, k) {
			t.Errorf("%v: changed", l)
		}
	}
	m := mmu.Of([8]byte{255, 0xF8, 0, 1, 0xF8, 127, 128, 0}, 0)
	for a, want := range map[uint32][]uint16{
		0: {0x4000, 0xE000}, 0x1FFF: {0x5FFF, 0xFFFF}, 0x2000: {0x6000}, 0x1F0005: {0x2005, 0x8005}, 0x1FFFFF: {0x1FFF}, 0xFFFFFFFF: {0x1FFF}, 0x200000: {0x4000, 0xE000},
		0x4000: nil, 0x1FDFFF: nil, 0x1F2000: nil, 0x204000: nil,
	} {
		if got := m.Seen(a); !slices.Equal(got, want) {
			t.Errorf("Seen(%#x): %#x, not %#x", a, got, want)
		}
	}
	if got := mmu.New().Seen(0x200003); !slices.Equal(got, []uint16{3, 0x2003, 0x4003, 0x6003, 0x8003, 0xA003, 0xC003, 0xE003}) {
		t.Errorf("of all pages: %#x", got)
	}
}

// P18.3: each logical address is seen of its physical one.
func TestSeenOfPhys(t *testing.T) {
	for _, l := range banks() {
		m := mmu.Of(l, 0)
		for a := range 65536 {
			if !slices.Contains(m.Seen(m.Phys(uint16(a))), uint16(a)) {
				t.Fatalf("%v: %#x isn't seen", l, a)
			}
		}
	}
}

// P3: addresses that are answered are the caller's.
func TestSeenApart(t *testing.T) {
	m := mmu.Of([8]byte{3, 3, 3}, 0)
	got := m.Seen(3 << 13)
	for n := range got {
		got[n] = 9
	}
	if again := m.Seen(3 << 13); !slices.Equal(again, []uint16{0, 0x2000, 0x4000}) || !slices.Equal(got, []uint16{9, 9, 9}) {
		t.Errorf("%v, then %v", got, again)
	}
}

// P18.3, P5: a clone is alike, another one, and apart, whichever of both is changed.
func TestClone(t *testing.T) {
	for _, l := range banks() {
		m, k := mmu.Of(l, 5), model{l, 5}
		c, d := m.Clone(), k
		if c == nil || c == m || !is(c, d) || !is(m, k) {
			t.Fatalf("%v: a clone isn't alike, or isn't another one", l)
		}
		c.Set(0x5A, 42)
		if d.set(0x5A, 42); !is(c, d) || !is(m, k) {
			t.Errorf("%v: a clone is changed, and the first one with it", l)
		}
		c.Get(0x01)
		c.Reset()
		d.get(0x01)
		if d.banks[7] = 0; !is(c, d) || !is(m, k) {
			t.Errorf("%v: a clone is reset, and the first one with it", l)
		}
		m.Set(0xFF, 21)
		m.Set(0x06, 22)
		k.set(0xFF, 21)
		if k.set(0x06, 22); !is(c, d) || !is(m, k) {
			t.Errorf("%v: the first one is changed, and its clone with it", l)
		}
		m.Get(0x08)
		m.Reset()
		k.get(0x08)
		if k.banks[7] = 0; !is(c, d) || !is(m, k) {
			t.Errorf("%v: the first one is reset, and its clone with it", l)
		}
	}
}

// P5: they have nothing to do with others that New or Of made.
func TestApart(t *testing.T) {
	m, other := mmu.New(), mmu.Of([8]byte{1, 2, 3}, 4)
	m.Set(0xFF, 9)
	if m.Reset(); !is(other, model{[8]byte{1, 2, 3}, 4}) || !is(mmu.New(), model{}) {
		t.Error("others are changed")
	}
}

// P18.3, P1: nil is all 0, and isn't changed; its clone is nil.
func TestNil(t *testing.T) {
	var m *mmu.Mmu
	for range 2 {
		for mask := range 256 {
			m.Set(byte(mask), 9)
			if got := m.Get(byte(mask)); got != 0 || m.Banks() != [8]byte{} || m.Last() != 0 {
				t.Errorf("Get(%#x): %d", mask, got)
			}
		}
		m.Reset()
		for a := range 65536 {
			if got := m.Phys(uint16(a)); got != uint32(a%8192) {
				t.Fatalf("Phys(%#x): %#x", a, got)
			}
		}
		for _, a := range []uint32{0, 5, 8191, 8192, 0x1FFFFF, 0x200005, math.MaxUint32} {
			if got, want := m.Seen(a), (&model{}).seen(a); !slices.Equal(got, want) {
				t.Errorf("Seen(%#x): %v, not %v", a, got, want)
			}
		}
		if m.Clone() != nil {
			t.Error("nil has a clone")
		}
	}
}

// P1: such as no call made are as new ones.
func TestUnmade(t *testing.T) {
	m, k := new(mmu.Mmu), model{}
	if !is(m, k) || !is(m.Clone(), k) || m.Get(0xFF) != 0 || len(m.Seen(5)) != 8 {
		t.Errorf("%v, %d", m.Banks(), m.Last())
	}
	m.Set(0x81, 9)
	if k.set(0x81, 9); !is(m, k) {
		t.Errorf("%v, %d", m.Banks(), m.Last())
	}
	m.Reset()
	if k.banks[7] = 0; !is(m, k) {
		t.Errorf("%v, %d", m.Banks(), m.Last())
	}
}

// P18.4: places of the zero page and of the stack.
func TestZeroStack(t *testing.T) {
	for b, want := range map[byte][2]uint16{0: {8192, 8448}, 1: {8193, 8449}, 255: {8447, 8703}} {
		if got := [2]uint16{mmu.Zero(b), mmu.Stack(b)}; got != want {
			t.Errorf("%d: %v, not %v", b, got, want)
		}
	}
	for b := range 256 {
		if got := [2]uint16{mmu.Zero(byte(b)), mmu.Stack(byte(b))}; got != [2]uint16{uint16(8192 + b), uint16(8448 + b)} {
			t.Errorf("%d: %v", b, got)
		}
	}
}

// P18.4, P2: the three addresses; none of others.
func TestPort(t *testing.T) {
	for n, want := range []uint32{2088960, 2088962, 2088963} {
		if got, ok := mmu.Port(n); !ok || got != want {
			t.Errorf("Port(%d): %d, %v", n, got, ok)
		}
	}
	for _, n := range []int{math.MinInt, math.MinInt32, -256, -3, -2, -1, 3, 4, 5, 256, 1 << 32, math.MaxInt32, math.MaxInt} {
		if got, ok := mmu.Port(n); ok || got != 0 {
			t.Errorf("Port(%d): %d, %v", n, got, ok)
		}
	}
}

// P18.5: what was moved to a page is moved from it again; a page that isn't in the mask stays.
func TestMovedAgain(t *testing.T) {
	for n := range 8 {
		for mask := range 256 {
			m := mmu.Of([8]byte{1, 2, 3, 4, 5, 6, 7, 8}, 0)
			m.Set(byte(mask), 99)
			want := byte(n + 1)
			if mask>>n%2 == 1 {
				want = 99
			}
			if got := m.Get(1 << n); got != want {
				t.Errorf("Set(%#x, 99), Get(%#x): %d, not %d", mask, 1<<n, got, want)
			}
		}
		for b := range 256 {
			m := mmu.New()
			m.Set(1<<n, byte(b))
			m.Set(^byte(1<<n), byte(b)+1)
			if got := m.Get(1 << n); got != byte(b) {
				t.Errorf("page %d: %d, not %d", n, got, b)
			}
		}
	}
}

// The examples of the chapter.
func TestExamples(t *testing.T) {
	if got := phys.Text(mmu.Of([8]byte{0, 0xF8}, 0).Phys(0x2005)); got != "F8:0005" {
		t.Errorf("Phys(0x2005): %s", got)
	}
	m := mmu.New()
	m.Set(0x82, 7)
	if m.Banks() != [8]byte{1: 7, 7: 7} || m.Get(0) != 7 || m.Get(0x03) != 0 || m.Get(0) != 0 {
		t.Errorf("Set(0x82, 7): %v, last %d", m.Banks(), m.Last())
	}
}
