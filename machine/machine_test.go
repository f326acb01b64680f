package machine_test

import (
	"fmt"
	"slices"
	"strings"
	"testing"

	"gannet/api"
	"gannet/enter"
	"gannet/machine"
	"gannet/script"
	"gannet/timing"
	"gannet/walk"
)

// zero tells whether a result has nothing.
func zero(r api.Result) bool {
	return r.State == (api.State{}) && r.Steps == 0 && r.Now == 0 && len(r.Trace) == 0 && len(r.Ram) == 0 && r.Status == (api.Status{})
}

// P35.1, P35.2, P35.3, P2: a script that may not be run has the fault that is named first, and nothing else.
func TestRefused(t *testing.T) {
	image := make([]byte, api.PageSize)
	long := make([]byte, api.MaxFeed+1)
	const latest = 24 * api.MaxBudget
	for _, c := range []struct {
		name string
		s    api.Script
		want api.Fault
	}{
		{"nothing", api.Script{}, api.Fault{Errno: api.ErrPages}},
		{"a byte less", api.Script{Rom: image[1:], Budget: 100}, api.Fault{Errno: api.ErrPages}},
		{"a byte more", api.Script{Rom: make([]byte, api.PageSize+1), Budget: 100}, api.Fault{Errno: api.ErrPages}},
		{"129 pages", api.Script{Rom: make([]byte, 129*api.PageSize), Budget: 100}, api.Fault{Errno: api.ErrPages}},
		{"vdc", api.Script{Rom: image, Feeds: api.Feeds{Vdc: long}, Budget: 100}, api.Fault{Errno: api.ErrLong}},
		{"vce", api.Script{Rom: image, Feeds: api.Feeds{Vce: long}, Budget: 100}, api.Fault{Errno: api.ErrLong}},
		{"port", api.Script{Rom: image, Feeds: api.Feeds{Port: long}, Budget: 100}, api.Fault{Errno: api.ErrLong}},
		{"edges", api.Script{Rom: image, Edges: make([]api.Edge, 1001), Budget: 100}, api.Fault{Errno: api.ErrLong, At: 1000}},
		{"no such line", api.Script{Rom: image, Edges: []api.Edge{{}, {Line: 4}}, Budget: 100}, api.Fault{Errno: api.ErrLine, At: 1}},
		{"below 0", api.Script{Rom: image, Edges: []api.Edge{{Stamp: -1}}, Budget: 100}, api.Fault{Errno: api.ErrEdge}},
		{"too late", api.Script{Rom: image, Edges: []api.Edge{{Stamp: latest}, {Stamp: latest + 1}}, Budget: 100}, api.Fault{Errno: api.ErrEdge, At: 1}},
		{"falling", api.Script{Rom: image, Edges: []api.Edge{{Stamp: 5}, {Stamp: 5}, {Stamp: 4}}, Budget: 100}, api.Fault{Errno: api.ErrEdge, At: 2}},
		{"a budget below 0", api.Script{Rom: image, Budget: -1}, api.Fault{Errno: api.ErrBudget}},
		{"the least budget", api.Script{Rom: image, Budget: -1 << 63}, api.Fault{Errno: api.ErrBudget}},
		{"a budget too much", api.Script{Rom: image, Budget: api.MaxBudget + 1}, api.Fault{Errno: api.ErrBudget}},
		{"the greatest budget", api.Script{Rom: image, Budget: 1<<63 - 1}, api.Fault{Errno: api.ErrBudget}},
		{"all", api.Script{Feeds: api.Feeds{Vdc: long}, Edges: []api.Edge{{Line: 4}}, Budget: -1}, api.Fault{Errno: api.ErrPages}},
		{"all but the image", api.Script{Rom: image, Feeds: api.Feeds{Vdc: long}, Edges: []api.Edge{{}, {Line: 4}}, Budget: -1}, api.Fault{Errno: api.ErrLong}},
		{"edges and budget", api.Script{Rom: image, Edges: []api.Edge{{}, {}, {Line: 4}}, Budget: -1}, api.Fault{Errno: api.ErrLine, At: 2}},
	} {
		if f := script.Check(c.s); f != c.want {
			t.Fatalf("%s: %v", c.name, f)
		}
		if m, f := machine.New(c.s); m != nil || f != c.want {
			t.Errorf("%s: New: %v, %v", c.name, m, f)
		}
		if r, f := machine.Run(c.s); !zero(r) || f != c.want {
			t.Errorf("%s: Run: %v, %v", c.name, r, f)
		}
		if n, f := machine.Calm(c.s); n != 0 || f != c.want {
			t.Errorf("%s: Calm: %d, %v", c.name, n, f)
		}
	}
}

// P35.1: ahead of the first cycle it is at a boundary that counts for none.
func TestAhead(t *testing.T) {
	for _, budget := range []int64{0, 1, 8, 1000, api.MaxBudget} {
		m := begun(t, run(t, "A9 05", budget, up(0, api.LineReset), up(0, api.LineNmi)))
		if !m.Idle() || m.State() != (api.State{P: api.FlagI}) || m.State() != enter.Begin() || m.Steps() != 0 || m.Left() != budget {
			t.Errorf("budget %d: %v, %v, %d, %d", budget, m.Idle(), m.State(), m.Steps(), m.Left())
		}
		want := api.Result{State: enter.Begin(), Status: api.Status{Left: 3072}}
		if u := unlike(m.Result(), want); u != "" {
			t.Errorf("budget %d: %s", budget, u)
		}
	}
}

// P35.1: the reset and an instruction, cycle by cycle, by hand.
func TestCycle(t *testing.T) {
	m := begun(t, run(t, "A9 05 85 10", 13))
	reset := api.State{S: 0xFD, P: api.FlagI, PC: 0xE000}
	loaded := api.State{A: 5, S: 0xFD, P: api.FlagI, PC: 0xE002}
	for i, c := range []struct {
		access api.Access
		idle   bool
		steps  int
		state  api.State
	}{
		{api.Access{Stamp: 0, Addr: 0, Kind: api.Dummy, Data: 0xA9}, false, 0, enter.Begin()},
		{api.Access{Stamp: 12, Addr: 0, Kind: api.Dummy, Data: 0xA9}, false, 0, enter.Begin()},
		{api.Access{Stamp: 24, Addr: 0x100, Kind: api.Dummy}, false, 0, enter.Begin()},
		{api.Access{Stamp: 36, Addr: 0x1FF, Kind: api.Dummy}, false, 0, enter.Begin()},
		{api.Access{Stamp: 48, Addr: 0x1FE, Kind: api.Dummy}, false, 0, enter.Begin()},
		{api.Access{Stamp: 60, Addr: 0x1FFE, Kind: api.Vector, Data: 0x00}, false, 0, enter.Begin()},
		{api.Access{Stamp: 72, Addr: 0x1FFF, Kind: api.Vector, Data: 0xE0}, false, 0, enter.Begin()},
		{api.Access{Stamp: 84, Addr: 0, Kind: api.Dummy, Data: 0xA9}, true, 1, reset},
		{api.Access{Stamp: 96, Addr: 0, Kind: api.Fetch, Data: 0xA9}, false, 1, reset},
		{api.Access{Stamp: 108, Addr: 1, Kind: api.Operand, Data: 5}, true, 2, loaded},
		{api.Access{Stamp: 120, Addr: 2, Kind: api.Fetch, Data: 0x85}, false, 2, loaded},
		{api.Access{Stamp: 132, Addr: 3, Kind: api.Operand, Data: 0x10}, false, 2, loaded},
		{api.Access{Stamp: 144, Addr: 4, Kind: api.Dummy}, false, 2, loaded},
	} {
		if a, ok := m.Cycle(); a != c.access || !ok {
			t.Errorf("%d: %v, %v, not %v", i, a, ok, c.access)
		}
		if m.Idle() != c.idle || m.Steps() != c.steps || m.State() != c.state || m.Left() != int64(12-i) {
			t.Errorf("%d: %v, %d, %v, %d", i, m.Idle(), m.Steps(), m.State(), m.Left())
		}
	}
	for range 3 {
		if a, ok := m.Cycle(); a != (api.Access{}) || ok {
			t.Errorf("%v, %v", a, ok)
		}
		if m.Idle() || m.Steps() != 2 || m.State() != loaded || m.Left() != 0 {
			t.Errorf("%v, %d, %v, %d", m.Idle(), m.Steps(), m.State(), m.Left())
		}
	}
}

// P35.1: no access at all.
func TestCycleNone(t *testing.T) {
	m := begun(t, run(t, "A9 05", 0))
	if a, ok := m.Cycle(); a != (api.Access{}) || ok {
		t.Errorf("%v, %v", a, ok)
	}
	if m.To(0xE000) || m.To(0) || !m.Idle() || m.Steps() != 0 || m.State() != enter.Begin() {
		t.Errorf("%v, %d, %v", m.Idle(), m.Steps(), m.State())
	}
}

// P35.1: each access' stamp: another speed from the next step on, an extra cycle of a device.
func TestSpeeds(t *testing.T) {
	s := run(t, "A9 F8 53 02 D4 A9 FF 53 01 AD 00 00 54 EA EA", 36)
	s.Feeds.Vdc = []byte{0x85}
	m := begun(t, s)
	var stamps []int64
	for {
		a, ok := m.Cycle()
		if !ok {
			break
		}
		stamps = append(stamps, a.Stamp)
	}
	want := []int64{
		0, 12, 24, 36, 48, 60, 72, 84,
		96, 108, 120, 132, 144, 156, 168,
		180, 192, 204, 216, 219, 222, 225, 228, 231, 234,
		// The fifth access is VDC's, and takes 6.
		237, 240, 243, 246, 249, 255, 258, 261, 264, 276, 288,
	}
	if !slices.Equal(stamps, want) {
		t.Errorf("%v, not %v", stamps, want)
	}
	if state := m.State(); state.A != 0x85 || state.Fast || m.Result().Now != 300 {
		t.Errorf("%v, now %d", state, m.Result().Now)
	}
	holds(t, "speeds", s)
}

// P35.1: lines that ask: reset and nmi also while I is set, irq1 and irq2 only if it is clear; each is entered ahead of the next cycle of a boundary.
func TestLines(t *testing.T) {
	for _, c := range []struct {
		name, code string
		budget     int64
		edges      []api.Edge
		want       string
	}{
		{"none", opens + "58 EA EA", 28, nil, "FD:E009 FD:E00A FD:E00B"},
		{"irq1", opens + "58 EA EA", 41, []api.Edge{up(0, api.LineIrq1), down(290, api.LineIrq1)}, "FD:E009 DDPPPVVD:F100 FDDUUUD:E009 FD:E00A"},
		{"irq2", opens + "58 EA EA", 41, []api.Edge{up(0, api.LineIrq2), down(290, api.LineIrq2)}, "FD:E009 DDPPPVVD:F000 FDDUUUD:E009 FD:E00A"},
		{"nmi, masked", opens + "EA EA", 41, []api.Edge{up(264, api.LineNmi)}, "FD:E009 DDPPPVVD:F300 FDDUUUD:E009 FD:E00A"},
		{"reset, masked", opens + "EA EA", 34, []api.Edge{up(270, api.LineReset), down(300, api.LineReset)}, "FD:E009 DDDDDVVD:E000 FO:E002"},
		{"irq1 and irq2, masked", opens + "EA EA EA", 28, []api.Edge{up(0, api.LineIrq1), up(0, api.LineIrq2)}, "FD:E009 FD:E00A FD:E00B"},
		{"at the last access", opens + "58 EA EA", 32, []api.Edge{up(276, api.LineIrq1)}, "FD:E009 DDPPPVVD:F100"},
		{"behind it", opens + "58 EA EA", 34, []api.Edge{up(277, api.LineIrq1)}, "FD:E009 FD:E00A DDPPPVVD:F100"},
		{"gone again", opens + "58 EA EA", 28, []api.Edge{up(265, api.LineIrq1), down(276, api.LineIrq1)}, "FD:E009 FD:E00A FD:E00B"},
		{"as long as it is up", opens + "58 EA EA", 47, []api.Edge{up(0, api.LineIrq1)}, "FD:E009 DDPPPVVD:F100 FDDUUUD:E009 DDPPPVVD:F100"},
		{"all: reset", opens + "58 EA", 32, []api.Edge{up(270, api.LineReset), up(270, api.LineNmi), up(270, api.LineIrq1), up(270, api.LineIrq2)}, "FD:E009 DDDDDVVD:E000"},
		{"all but reset: nmi, irq1", opens + "58 EA", 54, []api.Edge{up(270, api.LineNmi), up(270, api.LineIrq1), up(270, api.LineIrq2)}, "FD:E009 DDPPPVVD:F300 FDDUUUD:E009 DDPPPVVD:F100 FDDUUUD:E009"},
		{"nmi within an entry", opens + "58 EA", 54, []api.Edge{up(270, api.LineIrq2), up(290, api.LineNmi), down(291, api.LineIrq2)}, "FD:E009 DDPPPVVD:F000 DDPPPVVD:F300 FDDUUUD:F000 FDDUUUD:E009"},
		{"not whole", opens + "EA EA", 27, []api.Edge{up(264, api.LineNmi)}, "FD:E009 DDP+"},
	} {
		does(t, c.name, run(t, c.code, c.budget, c.edges...), opened+c.want)
	}
	does(t, "reset from the beginning on", run(t, "EA", 26, up(0, api.LineReset)), "DDDDDVVD:E000 DDDDDVVD:E000 DDDDDVVD:E000 DD+")
}

// P35.1: the timer is entered as soon as it asks, and again.
func TestTimer(t *testing.T) {
	// It is turned on at 396, so that it asks from 3468 on. A loop's last access lies at 420 and 48 for each of its rounds.
	const timed = opens + "9C 00 0C A9 01 8D 01 0C 58 80 FE"
	const begin = opened + "FOODS:E00B FO:E00D FOODS:E010 FD:E011"
	round := func(n int) string { return strings.Repeat(" FODD:E011", n) }
	const entry = " DDPPPVVD:F200 FOODS:F203 FDDUUUD:E011"
	does(t, "once", run(t, timed, 36+4*64+20), begin+round(64)+entry)
	// The entry and what answers it take 20 accesses more than 5 rounds do; it asks again at 6540.
	does(t, "twice", run(t, timed, 36+4*64+20+4*59+20), begin+round(64)+entry+round(59)+entry)
	does(t, "with irq1", run(t, timed, 36+4*64+28, up(3468, api.LineIrq1)), begin+round(64)+entry+" DDPPPVVD:F100")
	does(t, "masked", run(t, strings.Replace(timed, "58", "EA", 1), 36+4*70), begin+round(70))
}

// P35.1: BRK is an instruction that goes where irq2 does, whatever asks; nothing is entered within it.
func TestBrk(t *testing.T) {
	does(t, "masked", run(t, opens+"00 99 EA", 39), opened+"FOPPPVVD:F000 FDDUUUD:E00A FD:E00B")
	does(t, "not masked", run(t, opens+"58 00 99 EA", 41), opened+"FD:E009 FOPPPVVD:F000 FDDUUUD:E00B FD:E00C")
	does(t, "irq1 asks", run(t, opens+"58 00 99 EA", 47, up(290, api.LineIrq1)), opened+"FD:E009 FOPPPVVD:F000 FDDUUUD:E00B DDPPPVVD:F100")
	does(t, "nmi asks", run(t, opens+"58 00 99 EA", 47, up(290, api.LineNmi)), opened+"FD:E009 FOPPPVVD:F000 DDPPPVVD:F300 FDDUUUD:F000")
}

// P35.1: within a block nothing is entered, whoever asks.
func TestBlock(t *testing.T) {
	const code = opens + "58 73 00 E0 00 22 03 00 EA EA"
	block := "FPPPOOOOOOD" + strings.Repeat("DLDDSD", 3) + "DUUUDD:E010"
	// 17 accesses, and 6 a byte: from 288 till 708, the last one at 696.
	does(t, "alone", run(t, code, 24+35+2), opened+"FD:E009 "+block+" FD:E011")
	for _, stamp := range []int64{277, 300, 500, 696} {
		does(t, fmt.Sprint("irq1 at ", stamp), run(t, code, 24+35+8, up(stamp, api.LineIrq1)), opened+"FD:E009 "+block+" DDPPPVVD:F100")
		does(t, fmt.Sprint("reset at ", stamp), run(t, code, 24+35+8, up(stamp, api.LineReset)), opened+"FD:E009 "+block+" DDDDDVVD:E000")
	}
	does(t, "behind it", run(t, code, 24+35+10, up(697, api.LineNmi)), opened+"FD:E009 "+block+" FD:E011 DDPPPVVD:F300")
	does(t, "gone within", run(t, code, 24+35+2, up(300, api.LineIrq1), down(690, api.LineIrq1)), opened+"FD:E009 "+block+" FD:E011")
	// All that it may end within.
	for budget := range int64(35) {
		holds(t, fmt.Sprint("budget ", 24+budget), run(t, code, 24+budget, up(300, api.LineNmi)))
	}
}

// P35.2, P35.5: the longest block there is, and what asks within it.
func TestLongest(t *testing.T) {
	const ahead = 8 + 7 + 2
	s := run(t, "A9 F8 53 02 58 D3 00 E0 00 60 00 00", int64(ahead+timing.Longest()+8), up(ahead*12+1, api.LineIrq1))
	for _, less := range []int64{0, 1, 8, 9, 16, 100, 6 * 65536} {
		few := s
		few.Budget -= less
		want, _ := walk.Run(few)
		if u := unlike(result(t, few), want); u != "" {
			t.Errorf("less %d: %s", less, u)
		}
	}
	m := begun(t, s)
	if !m.To(0xE00C) || m.Left() != 8 || m.Steps() != 5 || !m.To(0xF100) || m.Left() != 0 || m.Steps() != 6 {
		t.Errorf("%v, %d left, %d steps", m.State(), m.Left(), m.Steps())
	}
}

// P35.2: places that are reached at once, later, in a loop, and never.
func TestTo(t *testing.T) {
	// At 0xE008 a loop: NOP, NOP, BRA.
	s := run(t, opens+"EA EA 80 FC", 22+8*3+1)
	m := begun(t, s)
	at := func(name string, pc uint16, ok bool, steps int, left int64) {
		t.Helper()
		if got := m.To(pc); got != ok || m.Steps() != steps || m.Left() != left || ok && (m.State().PC != pc || !m.Idle()) {
			t.Errorf("%s: %v, %d steps, %d left, %v", name, got, m.Steps(), m.Left(), m.State())
		}
	}
	at("at once", 0xE000, true, 1, 22+25-8)
	at("the next one", 0xE002, true, 2, 22+25-10)
	at("later", 0xE008, true, 5, 25)
	at("in a loop", 0xE008, true, 8, 17)
	at("within the loop", 0xE009, true, 9, 15)
	at("behind it", 0xE00A, true, 10, 13)
	at("again", 0xE00A, true, 13, 5)
	at("once more", 0xE008, true, 14, 1)
	at("none whole is left", 0xE009, false, 14, 0)
	at("none is left", 0xE008, false, 14, 0)
	if m.State().PC != 0xE008 || m.Idle() {
		t.Errorf("%v, %v", m.State(), m.Idle())
	}
	if u := unlike(m.Result(), result(t, s)); u != "" {
		t.Error(u)
	}
	m = begun(t, s)
	at("never", 0xE001, false, 14, 0)
	m = begun(t, s)
	// PC is 0 ahead of the first cycle, but one cycle is done at least.
	at("where it was", 0, false, 14, 0)
	m = begun(t, run(t, opens, 8))
	at("by the last access", 0xE000, true, 1, 0)
	at("by none", 0xE000, false, 1, 0)
	m = begun(t, run(t, opens, 7))
	at("one too few", 0xE000, false, 0, 0)
}

// P35.2: begun within a step, and up to boundaries alone; what is entered there is ahead.
func TestToWithin(t *testing.T) {
	s := run(t, opens+"EA EA 80 FC", 100, up(270, api.LineNmi))
	m := begun(t, s)
	cycle := func(kind uint8) {
		t.Helper()
		if a, ok := m.Cycle(); a.Kind != kind || !ok {
			t.Errorf("%v, %v", a, ok)
		}
	}
	if !m.To(0xE002) {
		t.Error("0xE002 isn't reached")
	}
	// PC is what was at the last boundary, but it isn't at one.
	cycle(api.Fetch)
	if m.State().PC != 0xE002 || !m.To(0xE004) || m.Steps() != 3 || m.Left() != 100-15 {
		t.Errorf("%v, %d steps, %d left", m.State(), m.Steps(), m.Left())
	}
	// At 0xE009 nmi asks, but isn't entered yet.
	if !m.To(0xE009) || m.Steps() != 6 || !m.Result().Status.Nmi {
		t.Errorf("%v, %d steps", m.State(), m.Steps())
	}
	cycle(api.Dummy)
	if m.Result().Status.Nmi || m.Idle() || m.State().PC != 0xE009 {
		t.Errorf("%v", m.Result().Status)
	}
	if !m.To(0xF300) || m.Steps() != 7 || m.Left() != 100-32 {
		t.Errorf("%v, %d steps, %d left", m.State(), m.Steps(), m.Left())
	}
	cycle(api.Fetch)
	if !m.To(0xE009) || m.Steps() != 8 || m.Left() != 100-39 {
		t.Errorf("%v, %d steps, %d left", m.State(), m.Steps(), m.Left())
	}
	// Within an instruction at whose beginning PC was that already.
	cycle(api.Fetch)
	if !m.To(0xE009) || m.Steps() != 11 || m.Left() != 100-47 {
		t.Errorf("%v, %d steps, %d left", m.State(), m.Steps(), m.Left())
	}
}

// P35.1, P35.2: cycles and strides in turn: each access is that of the run, wherever it is asked for.
func TestInTurn(t *testing.T) {
	s := run(t, opens+"58 E8 D0 FD C8 80 FA", 3000, up(2000, api.LineNmi), up(5000, api.LineIrq1), down(5100, api.LineIrq1))
	want := result(t, s)
	m := begun(t, s)
	x := chance(2)
	for m.Left() > 0 {
		n := s.Budget - m.Left()
		if x.next(9) == 0 {
			m.To([]uint16{0xE009, 0xE00A, 0xE00C, 0xE00D, 0xF300}[x.next(5)])
			continue
		}
		if a, ok := m.Cycle(); !ok || a != want.Trace[n] {
			t.Fatalf("%d: %v, %v, not %v", n, a, ok, want.Trace[n])
		}
	}
	if u := unlike(m.Result(), want); u != "" {
		t.Error(u)
	}
	for i := range 40 {
		m := begun(t, s)
		for range i {
			m.Cycle()
		}
		m.To(0xE00D)
		n := s.Budget - m.Left()
		if a, ok := m.Cycle(); !ok || a != want.Trace[n] {
			t.Errorf("%d: %v, %v, not %v", n, a, ok, want.Trace[n])
		}
	}
}

// P35.2: budgets of 0, 1 and 8, and such as end in the middle of a step, by hand.
func TestRun(t *testing.T) {
	const code = "A9 F8 53 02 85 10 EE 10 20"
	trace := []api.Access{
		{Stamp: 0, Kind: api.Dummy, Data: 0xA9}, {Stamp: 12, Kind: api.Dummy, Data: 0xA9},
		{Stamp: 24, Addr: 0x100, Kind: api.Dummy}, {Stamp: 36, Addr: 0x1FF, Kind: api.Dummy}, {Stamp: 48, Addr: 0x1FE, Kind: api.Dummy},
		{Stamp: 60, Addr: 0x1FFE, Kind: api.Vector}, {Stamp: 72, Addr: 0x1FFF, Kind: api.Vector, Data: 0xE0}, {Stamp: 84, Kind: api.Dummy, Data: 0xA9},
		{Stamp: 96, Kind: api.Fetch, Data: 0xA9}, {Stamp: 108, Addr: 1, Kind: api.Operand, Data: 0xF8},
		{Stamp: 120, Addr: 2, Kind: api.Fetch, Data: 0x53}, {Stamp: 132, Addr: 3, Kind: api.Operand, Data: 0x02},
		{Stamp: 144, Addr: 4, Kind: api.Dummy, Data: 0x85}, {Stamp: 156, Addr: 4, Kind: api.Dummy, Data: 0x85}, {Stamp: 168, Addr: 4, Kind: api.Dummy, Data: 0x85},
		{Stamp: 180, Addr: 4, Kind: api.Fetch, Data: 0x85}, {Stamp: 192, Addr: 5, Kind: api.Operand, Data: 0x10},
		{Stamp: 204, Addr: 6, Kind: api.Dummy, Data: 0xEE}, {Stamp: 216, Addr: 0x1F0010, Kind: api.Store, Write: true, Data: 0xF8},
		{Stamp: 228, Addr: 6, Kind: api.Fetch, Data: 0xEE}, {Stamp: 240, Addr: 7, Kind: api.Operand, Data: 0x10}, {Stamp: 252, Addr: 8, Kind: api.Operand, Data: 0x20},
		{Stamp: 264, Addr: 9, Kind: api.Dummy}, {Stamp: 276, Addr: 0x1F0010, Kind: api.Load, Data: 0xF8}, {Stamp: 288, Addr: 9, Kind: api.Dummy},
		{Stamp: 300, Addr: 0x1F0010, Kind: api.Store, Write: true, Data: 0xF9},
	}
	reset := api.State{S: 0xFD, P: api.FlagI, PC: 0xE000}
	loaded := api.State{A: 0xF8, S: 0xFD, P: api.FlagI | api.FlagN, PC: 0xE002}
	mapped := api.State{A: 0xF8, S: 0xFD, P: api.FlagI | api.FlagN, PC: 0xE004, Mpr: [8]byte{1: 0xF8}, Last: 0xF8}
	stored, more := mapped, mapped
	stored.PC, more.PC = 0xE006, 0xE009
	for _, c := range []struct {
		budget int
		state  api.State
		steps  int
		ram    byte
	}{
		{0, enter.Begin(), 0, 0}, {1, enter.Begin(), 0, 0}, {7, enter.Begin(), 0, 0}, {8, reset, 1, 0}, {9, reset, 1, 0},
		{10, loaded, 2, 0}, {11, loaded, 2, 0}, {14, loaded, 2, 0}, {15, mapped, 3, 0}, {18, mapped, 3, 0}, {19, stored, 4, 0xF8},
		{20, stored, 4, 0xF8}, {25, stored, 4, 0xF8}, {26, more, 5, 0xF9},
	} {
		s := run(t, code, int64(c.budget))
		want := api.Result{State: c.state, Steps: c.steps, Now: int64(12 * c.budget), Trace: trace[:c.budget], Status: api.Status{Left: 3072}}
		if c.ram > 0 {
			want.Ram = []api.Piece{{At: 0x10, Bytes: []byte{c.ram}}}
		}
		if u := unlike(result(t, s), want); u != "" {
			t.Errorf("budget %d: %s", c.budget, u)
		}
		holds(t, fmt.Sprint("budget ", c.budget), s)
	}
}

// P35.2: what comes of it until now is what a run of as many accesses answers: to ask for it changes nothing.
func TestResult(t *testing.T) {
	edges := []api.Edge{up(310, api.LineIrq1), down(900, api.LineIrq1), up(1000, api.LineNmi)}
	s := run(t, opens+"58 D4 F3 02 00 00 22 05 00 54 AD 02 04 8D 00 23 EE 00 23 AD 00 00 00 EA EA EA", 150, edges...)
	s.Feeds.Vdc = []byte{1, 2, 3}
	m := begun(t, s)
	for n := range s.Budget + 1 {
		few := s
		few.Budget = n
		if u := unlike(m.Result(), result(t, few)); u != "" {
			t.Errorf("behind %d: %s", n, u)
		}
		m.Cycle()
	}
}

// P35.2: what devices were asked, and how they stand.
func TestStatus(t *testing.T) {
	s := run(t, opens+"AD 00 00 AD 00 00 AD 04 04 AD 00 10 A9 05 8D 00 0C A9 01 8D 01 0C 8D 02 14 8D 00 10", 22+5*4+2+5+2+5*3, up(264, api.LineIrq1))
	s.Feeds = api.Feeds{Vdc: []byte{1}, Vce: []byte{2}, Port: []byte{3}}
	want := api.Status{Latch: 1, Reload: 5, Counter: 5, Disable: 1, Select: 1, Left: 3072 - 120, On: true, Vdc: 2, Vce: 1, Port: 1}
	if got := result(t, s).Status; got != want {
		t.Errorf("%v, not %v", got, want)
	}
	holds(t, "devices", s)
}

// P35.3: the last access' stamp; -1, if there is none.
func TestCalm(t *testing.T) {
	const code = "A9 F8 53 02 D4 A9 FF 53 01 AD 00 00 54 EA EA"
	for _, c := range []struct{ budget, want int64 }{
		{0, -1}, {1, 0}, {2, 12}, {8, 84}, {9, 96}, {18, 204}, {19, 216}, {20, 219}, {30, 249}, {31, 255}, {32, 258}, {36, 288},
	} {
		if n, f := machine.Calm(run(t, code, c.budget)); n != c.want || f != (api.Fault{}) {
			t.Errorf("budget %d: %d, %v, not %d", c.budget, n, f, c.want)
		}
	}
	x := chance(6)
	for range 30 {
		s := x.script(t, 1000)
		want := int64(-1)
		if l := result(t, s).Trace; len(l) > 0 {
			want = l[len(l)-1].Stamp
		}
		if n, f := machine.Calm(s); n != want || f != (api.Fault{}) {
			t.Errorf("%d, %v, not %d", n, f, want)
		}
	}
}

// P35.4, P1: nil has nothing; nor does one that no call made panic, or go on for ever.
func TestNil(t *testing.T) {
	var m *machine.Machine
	for range 2 {
		if a, ok := m.Cycle(); a != (api.Access{}) || ok {
			t.Errorf("%v, %v", a, ok)
		}
		if m.Idle() || m.State() != (api.State{}) || m.Steps() != 0 || m.Left() != 0 || m.To(0) || m.To(0xE000) || !zero(m.Result()) {
			t.Errorf("%v, %v, %d, %d, %v", m.Idle(), m.State(), m.Steps(), m.Left(), m.Result())
		}
	}
	m = new(machine.Machine)
	m.Cycle()
	m.Idle()
	m.State()
	m.Steps()
	m.Left()
	m.To(0)
	m.To(0xE000)
	m.Result()
}

// P35.5: programs of all sorts: a machine's result is the run's of layer 34, and so is each of its cycles.
func TestAll(t *testing.T) {
	x := chance(1)
	var entries [6]int
	for i := range 150 {
		s := x.script(t, 1500)
		holds(t, fmt.Sprint("script ", i), s)
		n, _ := walk.Entries(s)
		for kind := range n {
			entries[kind] += n[kind]
		}
	}
	for kind := api.ByReset; kind <= api.ByIrq2; kind++ {
		if entries[kind] < 10 {
			t.Errorf("kind %d: entered %d times only", kind, entries[kind])
		}
	}
}

// P35.5: a program that lies in a device: almost every access takes 24.
func TestSlowest(t *testing.T) {
	s := run(t, "A9 FF 53 80", 400)
	s.Feeds.Vdc = slices.Repeat([]byte{0xEA}, 400)
	holds(t, "in vdc", s)
	if r := result(t, s); r.Now != 15*12+385*24 || r.Status.Vdc != 385 {
		t.Errorf("now %d, %v", r.Now, r.Status)
	}
}

// P35.5: fewer accesses are the beginning of more.
func TestFewer(t *testing.T) {
	x := chance(3)
	for range 30 {
		s := x.script(t, 1000)
		all := result(t, s)
		for range 10 {
			few := s
			few.Budget = int64(x.next(int(s.Budget) + 1))
			r := result(t, few)
			if !slices.Equal(r.Trace, all.Trace[:few.Budget]) || r.Steps > all.Steps || few.Budget < s.Budget && r.Now != all.Trace[few.Budget].Stamp {
				t.Errorf("%d of %d: %d steps, now %d", few.Budget, s.Budget, r.Steps, r.Now)
			}
		}
	}
}

// P35.5: what a script tells behind the last stamp doesn't matter; at that stamp it may.
func TestBehind(t *testing.T) {
	x := chance(4)
	for range 60 {
		s := x.script(t, 1000)
		want := result(t, s)
		last, _ := machine.Calm(s)
		few := script.Until(s, last)
		if u := unlike(result(t, few), want); u != "" {
			t.Errorf("without: %s", u)
		}
		few.Edges = append(few.Edges, up(last+1, api.LineReset), up(last+1, api.LineNmi), up(last+1, api.LineIrq1), up(last+2, api.LineIrq2))
		if u := unlike(result(t, few), want); u != "" {
			t.Errorf("others: %s", u)
		}
	}
	s := run(t, opens+"EA", 24)
	for stamp, nmi := range map[int64]bool{276: true, 277: false} {
		s.Edges = []api.Edge{up(stamp, api.LineNmi)}
		if r := result(t, s); r.Status.Nmi != nmi {
			t.Errorf("%d: %v", stamp, r.Status)
		}
	}
}

// P3: what is handed in stays, spare room, too, and isn't kept; what is answered is the caller's.
func TestApart(t *testing.T) {
	s := run(t, opens+"58 EE 00 22 AD 00 04 AD 00 00 EA", 70)
	room := func(l ...byte) []byte { return append(l, 0xAA, 0xBB) }
	all := [][]byte{room(s.Rom...), room(1, 2), room(3, 4), room(5)}
	edges := []api.Edge{up(300, api.LineIrq1), down(400, api.LineIrq1), up(0, 99)}
	s.Rom, s.Feeds = all[0][:api.PageSize], api.Feeds{Vdc: all[1][:2], Vce: all[2][:2], Port: all[3][:1]}
	s.Edges = edges[:2]
	was := fmt.Sprint(all, edges)
	want := result(t, s)
	machine.Calm(s)
	m, other := begun(t, s), begun(t, s)
	for range 30 {
		m.Cycle()
	}
	m.To(0xE00C)
	if fmt.Sprint(all, edges) != was {
		t.Error("the script was changed")
	}
	spoiled := m.Result()
	clear(spoiled.Trace)
	for _, p := range spoiled.Ram {
		clear(p.Bytes)
	}
	clear(spoiled.Ram)
	for _, l := range all {
		clear(l)
	}
	clear(edges)
	for range s.Budget {
		m.Cycle()
	}
	if u := unlike(m.Result(), want); u != "" {
		t.Errorf("behind what was done to others: %s", u)
	}
	if !other.Idle() || other.Steps() != 0 || other.Left() != s.Budget {
		t.Errorf("another one went on, too: %d steps", other.Steps())
	}
	for n := range s.Budget {
		if a, ok := other.Cycle(); !ok || a != want.Trace[n] {
			t.Errorf("another one, %d: %v", n, a)
		}
	}
	if u := unlike(other.Result(), want); u != "" {
		t.Errorf("another one: %s", u)
	}
}
