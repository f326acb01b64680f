package irq_test

import (
	"math"
	"testing"

	"gannet/api"
	"gannet/cart"
	"gannet/irq"
)

// is tells whether a controller has such registers.
func is(q *irq.Irq, disable byte, due bool) bool {
	return q.Disable() == disable && q.Due() == due
}

// made is a controller of which so much is disabled, and whose timer asks, or doesn't.
func made(disable byte, due bool) *irq.Irq {
	q := irq.New()
	q.Write(2, disable)
	if due {
		q.Over()
	}
	return q
}

// either is both of what may be so.
func either() [2]bool { return [2]bool{false, true} }

// ups is how the four lines may stand, all ways of it: line n is bit n.
func ups() [16][4]bool {
	var l [16][4]bool
	for i := range l {
		for n := range l[i] {
			l[i][n] = i>>n&1 == 1
		}
	}
	return l
}

// chosen is what is entered, as the chapter tells it.
func chosen(disable byte, due bool, up [4]bool, masked bool) uint8 {
	switch {
	case up[0]:
		return 1
	case up[1]:
		return 2
	case masked:
		return 0
	case due && disable&4 == 0:
		return 3
	case up[2] && disable&2 == 0:
		return 4
	case up[3] && disable&1 == 0:
		return 5
	}
	return 0
}

// P11.1: a new one disables nothing, and its timer doesn't ask.
func TestNew(t *testing.T) {
	q := irq.New()
	if q == nil || !is(q, 0, false) || q.Status(false, false) != 0 || q.Choose([4]bool{}, false) != api.Nothing {
		t.Error("a new controller")
	}
	if irq.New() == irq.New() {
		t.Error("two new controllers are one")
	}
}

// P11.1: reg 2 is what is disabled, modulo 8; the timer asks as it did.
func TestWriteDisable(t *testing.T) {
	for b, want := range map[byte]byte{0: 0, 1: 1, 2: 2, 4: 4, 7: 7, 8: 0, 9: 1, 247: 7, 248: 0, 255: 7} {
		q := irq.New()
		if q.Write(2, b); q.Disable() != want {
			t.Errorf("written as %d: %d", b, q.Disable())
		}
	}
	for b := range 256 {
		for _, due := range either() {
			q := made(5, due)
			if q.Write(2, byte(b)); !is(q, byte(b%8), due) {
				t.Errorf("written as %d, %v: %d, %v", b, due, q.Disable(), q.Due())
			}
		}
	}
}

// P11.1: reg 3, whatever is written, makes that the timer doesn't ask any more; what is disabled stays.
func TestWriteAnswer(t *testing.T) {
	for b := range 256 {
		for _, due := range either() {
			q := made(5, due)
			if q.Write(3, byte(b)); !is(q, 5, false) {
				t.Errorf("written as %d, %v: %d, %v", b, due, q.Disable(), q.Due())
			}
			if q.Over(); !is(q, 5, true) {
				t.Errorf("written as %d, %v, and over again", b, due)
			}
		}
	}
}

// P11.1: other registers are none, below 0, 0, 1, and above 3.
func TestWriteOther(t *testing.T) {
	for _, reg := range []int{math.MinInt, -258, -254, -253, -4, -3, -2, -1, 0, 1, 4, 5, 6, 7, 10, 258, 259, 1<<32 + 2, 1<<32 + 3, math.MaxInt} {
		for _, b := range []byte{0, 1, 7, 255} {
			for _, due := range either() {
				q := made(5, due)
				if q.Write(reg, b); !is(q, 5, due) {
					t.Errorf("register %d written as %d: %d, %v", reg, b, q.Disable(), q.Due())
				}
			}
		}
	}
}

// P11.1: the timer asks, once it was over, and still if it is over twice; one answer is enough for both.
func TestOver(t *testing.T) {
	q := irq.New()
	for n := range 2 {
		if q.Over(); !is(q, 0, true) {
			t.Errorf("over, time %d", n+1)
		}
	}
	if q.Write(3, 0); !is(q, 0, false) {
		t.Error("over twice, and answered")
	}
	d := made(7, false)
	if d.Over(); !is(d, 7, true) {
		t.Error("over, while all is disabled")
	}
}

// P11.1: the bits of the kinds that ask, disabled, or not.
func TestStatus(t *testing.T) {
	for disable := range byte(8) {
		for _, c := range []struct {
			due, irq1, irq2 bool
			want            byte
		}{
			{false, false, false, 0}, {false, false, true, 1}, {false, true, false, 2}, {false, true, true, 3},
			{true, false, false, 4}, {true, false, true, 5}, {true, true, false, 6}, {true, true, true, 7},
		} {
			q := made(disable, c.due)
			for range 2 {
				if got := q.Status(c.irq1, c.irq2); got != c.want || !is(q, disable, c.due) {
					t.Errorf("%v, with %d disabled: %d", c, disable, got)
				}
			}
		}
	}
	q := made(0, true)
	q.Write(3, 0)
	if q.Status(true, true) != 3 {
		t.Error("the timer was answered")
	}
}

// P11.2: each line alone, and the timer alone, masked and not.
func TestChooseAlone(t *testing.T) {
	for line, kind := range []uint8{api.ByReset, api.ByNmi, api.ByIrq1, api.ByIrq2} {
		up := [4]bool{}
		up[line] = true
		if got := irq.New().Choose(up, false); got != kind {
			t.Errorf("line %d: %d", line, got)
		}
		want := kind
		if line >= api.LineIrq1 {
			want = api.Nothing
		}
		if got := irq.New().Choose(up, true); got != want {
			t.Errorf("line %d, masked: %d", line, got)
		}
	}
	if q := made(0, true); q.Choose([4]bool{}, false) != api.ByTimer || q.Choose([4]bool{}, true) != api.Nothing {
		t.Error("the timer")
	}
}

// P11.2: of several the first one comes, down to the last.
func TestChooseFirst(t *testing.T) {
	q, up := made(0, true), [4]bool{true, true, true, true}
	for _, c := range []struct {
		kind  uint8
		still func()
	}{
		{api.ByReset, func() { up[api.LineReset] = false }},
		{api.ByNmi, func() { up[api.LineNmi] = false }},
		{api.ByTimer, func() { q.Write(3, 0) }},
		{api.ByIrq1, func() { up[api.LineIrq1] = false }},
		{api.ByIrq2, func() { up[api.LineIrq2] = false }},
		{api.Nothing, func() {}},
	} {
		if got := q.Choose(up, false); got != c.kind {
			t.Errorf("%d, not %d", got, c.kind)
		}
		c.still()
	}
}

// P11.2: each bit that is disabled keeps its own kind away, and no other one.
func TestChooseDisabled(t *testing.T) {
	all := [4]bool{false, false, true, true}
	for disable, want := range map[byte]uint8{0: api.ByTimer, 1: api.ByTimer, 2: api.ByTimer, 3: api.ByTimer, 4: api.ByIrq1, 5: api.ByIrq1, 6: api.ByIrq2, 7: api.Nothing} {
		if got := made(disable, true).Choose(all, false); got != want {
			t.Errorf("all ask, %d disabled: %d", disable, got)
		}
	}
	for kind, bit := range map[uint8]byte{api.ByTimer: 4, api.ByIrq1: 2, api.ByIrq2: 1} {
		up := [4]bool{api.LineIrq1: kind == api.ByIrq1, api.LineIrq2: kind == api.ByIrq2}
		for disable := range byte(8) {
			want := kind
			if disable&bit != 0 {
				want = api.Nothing
			}
			if got := made(disable, kind == api.ByTimer).Choose(up, false); got != want {
				t.Errorf("kind %d, %d disabled: %d", kind, disable, got)
			}
		}
	}
}

// P11.2: all ways in which there may be asked; nothing is changed by it.
func TestChoose(t *testing.T) {
	for disable := range byte(8) {
		for _, due := range either() {
			for _, up := range ups() {
				for _, masked := range either() {
					q := made(disable, due)
					for range 2 {
						if got, want := q.Choose(up, masked), chosen(disable, due, up, masked); got != want || !is(q, disable, due) {
							t.Errorf("%d, %v, %v, %v: %d, not %d", disable, due, up, masked, got, want)
						}
					}
				}
			}
		}
	}
}

// P11.3: where one finds where to go, of each kind, and of no kind.
func TestGoes(t *testing.T) {
	for kind, want := range map[uint8]uint16{api.ByReset: 0xFFFE, api.ByNmi: 0xFFFC, api.ByTimer: 0xFFFA, api.ByIrq1: 0xFFF8, api.ByIrq2: 0xFFF6} {
		if at, ok := irq.Goes(kind); at != want || !ok {
			t.Errorf("kind %d: %X, %v", kind, at, ok)
		}
	}
	for kind := range 256 {
		if at, ok := irq.Goes(uint8(kind)); (kind < 1 || kind > 5) && (at != 0 || ok) {
			t.Errorf("no kind %d: %X, %v", kind, at, ok)
		}
	}
}

// P11.3: where the words stand is where an image has them.
func TestGoesOfImage(t *testing.T) {
	goes := [5]uint16{0x1111, 0x2222, 0x3333, 0x4444, 0x5555}
	rom, _ := cart.Program(0, nil, goes)
	for kind := uint8(api.ByReset); kind <= api.ByIrq2; kind++ {
		if at, _ := irq.Goes(kind); cart.Word(rom, at) != goes[5-kind] {
			t.Errorf("kind %d goes to %X", kind, cart.Word(rom, at))
		}
	}
}

// P11.3: the bit of each kind, and that others have none.
func TestBit(t *testing.T) {
	bits := map[int]int{api.ByTimer: 2, api.ByIrq1: 1, api.ByIrq2: 0}
	for kind := range 256 {
		want, some := bits[kind]
		if !some {
			want = -1
		}
		if got := irq.Bit(uint8(kind)); got != want {
			t.Errorf("kind %d: %d", kind, got)
		}
	}
}

// P11.3: the name of each kind, and that others have none.
func TestName(t *testing.T) {
	names := map[int]string{api.ByReset: "reset", api.ByNmi: "nmi", api.ByTimer: "timer", api.ByIrq1: "irq1", api.ByIrq2: "irq2"}
	for kind := range 256 {
		if got := irq.Name(uint8(kind)); got != names[kind] {
			t.Errorf("kind %d: %q", kind, got)
		}
	}
}

// P11.4, P5: a clone is alike, another one, and apart, whichever of both is written.
func TestClone(t *testing.T) {
	for disable := range byte(8) {
		for _, due := range either() {
			q := made(disable, due)
			c := q.Clone()
			if c == nil || c == q || !is(c, disable, due) || !is(q, disable, due) {
				t.Fatal("a clone isn't alike, or isn't another one")
			}
			c.Write(2, disable+1)
			if c.Write(3, 0); !is(c, (disable+1)%8, false) || !is(q, disable, due) {
				t.Error("a clone is written, and the first one with it")
			}
			c.Over()
			if q.Write(3, 0); !is(c, (disable+1)%8, true) || !is(q, disable, false) {
				t.Error("a clone is told, and the first one with it")
			}
			q.Write(2, disable+2)
			if q.Over(); !is(q, (disable+2)%8, true) || !is(c, (disable+1)%8, true) {
				t.Error("the first one is written, and its clone with it")
			}
			d := c.Clone()
			if d.Write(3, 9); !is(d, (disable+1)%8, false) || !is(c, (disable+1)%8, true) {
				t.Error("a clone of a clone")
			}
		}
	}
}

// P11.4, P1: of nil nothing is disabled, and nobody asks but the lines; it isn't written to.
func TestNil(t *testing.T) {
	var q *irq.Irq
	for reg := -1; reg < 5; reg++ {
		q.Write(reg, 255)
		if q.Over(); !is(q, 0, false) {
			t.Errorf("a nil controller, register %d written", reg)
		}
	}
	for _, up := range ups() {
		for _, masked := range either() {
			if got, want := q.Choose(up, masked), chosen(0, false, up, masked); got != want {
				t.Errorf("a nil controller, %v, %v: %d, not %d", up, masked, got, want)
			}
		}
	}
	if q.Status(false, false) != 0 || q.Status(false, true) != 1 || q.Status(true, false) != 2 || q.Status(true, true) != 3 {
		t.Error("the status of a nil controller")
	}
	if q.Clone() != nil {
		t.Error("a nil controller's clone")
	}
}

// P1: a controller that no call made is as a new one.
func TestUnmade(t *testing.T) {
	q := &irq.Irq{}
	c := q.Clone()
	if !is(q, 0, false) || c == nil || c == q || !is(c, 0, false) || q.Status(true, true) != 3 || q.Choose([4]bool{}, false) != api.Nothing {
		t.Error("a controller that no call made")
	}
	q.Write(2, 2)
	if q.Over(); !is(q, 2, true) || !is(c, 0, false) || q.Choose([4]bool{}, false) != api.ByTimer {
		t.Error("a controller that no call made, written")
	}
}

// P5: controllers have nothing to do with one another.
func TestApart(t *testing.T) {
	q, r := irq.New(), irq.New()
	q.Write(2, 7)
	if q.Over(); !is(q, 7, true) || !is(r, 0, false) || !is(irq.New(), 0, false) {
		t.Error("a controller is written with another one")
	}
}

// P11.5: who is masked, or disabled, never comes; reset and nmi always do, if they ask.
func TestNeverComes(t *testing.T) {
	for disable := range byte(8) {
		for _, due := range either() {
			for _, up := range ups() {
				for _, masked := range either() {
					kind := made(disable, due).Choose(up, masked)
					if n := irq.Bit(kind); n >= 0 && (masked || disable>>n&1 == 1) {
						t.Errorf("%d, %v, %v, %v: %d comes", disable, due, up, masked, kind)
					}
				}
			}
		}
	}
	q := made(7, true)
	if got := q.Choose([4]bool{true, true, true, true}, true); got != api.ByReset {
		t.Errorf("all is masked and disabled: %d, not reset", got)
	}
	if got := q.Choose([4]bool{false, true, true, true}, true); got != api.ByNmi {
		t.Errorf("all is masked and disabled: %d, not nmi", got)
	}
	if got := q.Choose([4]bool{false, false, true, true}, true); got != api.Nothing {
		t.Errorf("all is masked and disabled: %d", got)
	}
}

// The examples of the chapter.
func TestExamples(t *testing.T) {
	q, up := made(0, true), [4]bool{api.LineIrq1: true, api.LineIrq2: true}
	if got := q.Choose(up, false); got != api.ByTimer {
		t.Errorf("the timer over: %d", got)
	}
	if q.Write(2, 4); q.Choose(up, false) != api.ByIrq1 {
		t.Error("the timer over, and disabled")
	}
	if at, ok := irq.Goes(api.ByIrq2); at != 0xFFF6 || !ok {
		t.Errorf("irq2: %X, %v", at, ok)
	}
}
