package machine_test

import (
	"bytes"
	"fmt"
	"slices"
	"strconv"
	"strings"
	"testing"

	"gannet/api"
	"gannet/bus"
	"gannet/cart"
	"gannet/enter"
	"gannet/hard"
	"gannet/isa"
	"gannet/machine"
	"gannet/script"
	"gannet/timing"
	"gannet/walk"
)

// octets is bytes, written in hexadecimal digits, with blanks between.
func octets(t *testing.T, text string) []byte {
	t.Helper()
	var l []byte
	for _, word := range strings.Fields(text) {
		v, err := strconv.ParseUint(word, 16, 8)
		if err != nil {
			t.Fatalf("%s: no byte", word)
		}
		l = append(l, byte(v))
	}
	return l
}

// Where the kinds go in the scripts of run: irq2, irq1, timer, nmi, reset. RTI stands at each place but the last one; the timer is answered ahead of it.
const (
	atIrq2  = 0xF000
	atIrq1  = 0xF100
	atTimer = 0xF200
	atNmi   = 0xF300
	atReset = 0xE000
)

// opens is what most programs begin with: work memory in page 1, devices in page 0, A is 0xFF; it takes 14 accesses, 22 with the reset, and is over at 264.
const opens = "A9 F8 53 02 A9 FF 53 01 "

// opened is what is told of that.
const opened = "DDDDDVVD:E000 FO:E002 FODDD:E004 FO:E006 FODDD:E008 "

// run is a script: code at 0xE000, an image of one page, edges and a budget.
func run(t *testing.T, code string, budget int64, edges ...api.Edge) api.Script {
	t.Helper()
	rom, e := cart.Program(0, octets(t, code), [5]uint16{atIrq2, atIrq1, atTimer, atNmi, atReset})
	if e != api.OK {
		t.Fatalf("%s: %d", code, e)
	}
	const rti = 0x40
	for _, at := range []int{atIrq2, atIrq1, atTimer, atNmi} {
		rom[at-atReset] = rti
	}
	// A is kept; the timer's asking is answered by a byte that is written to 0x1403.
	copy(rom[atTimer-atReset:], octets(t, "8D 03 14 40"))
	return api.Script{Rom: rom, Edges: edges, Budget: budget}
}

func up(stamp int64, line uint8) api.Edge { return api.Edge{Stamp: stamp, Line: line, Up: true} }

func down(stamp int64, line uint8) api.Edge { return api.Edge{Stamp: stamp, Line: line} }

// begun is a machine of a script that may be run.
func begun(t *testing.T, s api.Script) *machine.Machine {
	t.Helper()
	m, f := machine.New(s)
	if m == nil || f != (api.Fault{}) {
		t.Fatalf("%v, %v", m, f)
	}
	return m
}

// result is what comes of a script that may be run.
func result(t *testing.T, s api.Script) api.Result {
	t.Helper()
	r, f := machine.Run(s)
	if f != (api.Fault{}) {
		t.Fatalf("%v", f)
	}
	return r
}

// same tells whether pieces are alike.
func same(a, b []api.Piece) bool {
	return slices.EqualFunc(a, b, func(x, y api.Piece) bool { return x.At == y.At && bytes.Equal(x.Bytes, y.Bytes) })
}

// unlike tells what of two results isn't alike; nothing, if all is.
func unlike(a, b api.Result) string {
	switch {
	case !slices.Equal(a.Trace, b.Trace):
		return fmt.Sprintf("%d accesses, not %d", len(a.Trace), len(b.Trace))
	case a.State != b.State:
		return fmt.Sprintf("registers: %v, not %v", a.State, b.State)
	case a.Steps != b.Steps:
		return fmt.Sprintf("%d steps, not %d", a.Steps, b.Steps)
	case a.Now != b.Now:
		return fmt.Sprintf("now %d, not %d", a.Now, b.Now)
	case !same(a.Ram, b.Ram):
		return "memory"
	case a.Status != b.Status:
		return fmt.Sprintf("devices: %v, not %v", a.Status, b.Status)
	}
	return ""
}

// bound is a boundary: behind how many accesses it lies, and the registers there.
type bound struct {
	behind int
	state  api.State
}

// bounds is all boundaries of a script, as layers 27 and 28 come to them, access by access; the first one lies ahead of all.
func bounds(t *testing.T, s api.Script) []bound {
	t.Helper()
	page, f := hard.New(s.Feeds, s.Edges)
	if f != (api.Fault{}) {
		t.Fatalf("%v", f)
	}
	b := bus.New(s.Rom, page, s.Budget)
	core := isa.New(enter.Begin(), b)
	l := []bound{{0, enter.Begin()}}
	kind := uint8(api.ByReset)
	for b.Left() > 0 {
		if kind == api.Nothing {
			core.Step()
		} else {
			core.Enter(kind)
		}
		if b.Over() {
			break
		}
		l = append(l, bound{int(s.Budget - b.Left()), core.State()})
		kind = b.Choose(core.State().P&api.FlagI != 0)
	}
	return l
}

// told is a script's accesses, a word each step: their kinds, and PC behind them. The last word has a + instead, if its step isn't done.
func told(t *testing.T, s api.Script) string {
	t.Helper()
	m := begun(t, s)
	var kinds []uint8
	var words []string
	for {
		a, ok := m.Cycle()
		if !ok {
			break
		}
		kinds = append(kinds, a.Kind)
		if m.Idle() {
			words = append(words, fmt.Sprintf("%s:%04X", timing.Text(kinds), m.State().PC))
			kinds = nil
		}
	}
	if len(kinds) > 0 {
		words = append(words, timing.Text(kinds)+"+")
	}
	return strings.Join(words, " ")
}

// does holds the accesses of a script against what is written here, and all that is answered of it against the run of layer 34.
func does(t *testing.T, name string, s api.Script, want string) {
	t.Helper()
	if got := told(t, s); got != want {
		t.Errorf("%s: %s, not %s", name, got, want)
	}
	holds(t, name, s)
}

// holds holds a script's machine, cycle by cycle and as a whole, against the run of layer 34, and against the boundaries of layer 28.
func holds(t *testing.T, name string, s api.Script) {
	t.Helper()
	was := fmt.Sprint(s)
	want, f := walk.Run(s)
	if f != (api.Fault{}) {
		t.Fatalf("%s: %v", name, f)
	}
	if u := unlike(result(t, s), want); u != "" {
		t.Errorf("%s: %s", name, u)
	}
	if u := cycled(begun(t, s), s, want, bounds(t, s)); u != "" {
		t.Errorf("%s: %s", name, u)
	}
	if u := risen(want.Trace, s.Budget); u != "" {
		t.Errorf("%s: %s", name, u)
	}
	if fmt.Sprint(s) != was {
		t.Errorf("%s: the script was changed", name)
	}
}

// cycled tells what of a machine, cycle by cycle, isn't as it must be.
func cycled(m *machine.Machine, s api.Script, want api.Result, all []bound) string {
	steps := 0
	for n := range len(want.Trace) + 1 {
		if steps+1 < len(all) && all[steps+1].behind == n {
			steps++
		}
		at := all[steps]
		if m.Idle() != (at.behind == n) || m.State() != at.state || m.Steps() != steps || m.Left() != s.Budget-int64(n) {
			return fmt.Sprintf("behind %d: %v, %v, %d steps, %d left; not %v, %v, %d", n, m.Idle(), m.State(), m.Steps(), m.Left(), at.behind == n, at.state, steps)
		}
		if n == len(want.Trace) {
			break
		}
		if a, ok := m.Cycle(); !ok || a != want.Trace[n] {
			return fmt.Sprintf("access %d: %v, %v, not %v", n, a, ok, want.Trace[n])
		}
	}
	idle := m.Idle()
	for range 3 {
		if a, ok := m.Cycle(); ok || a != (api.Access{}) {
			return fmt.Sprintf("%v, %v, when none is left", a, ok)
		}
	}
	if m.Idle() != idle || m.Left() != 0 {
		return fmt.Sprintf("%v, %d left, behind the last one", m.Idle(), m.Left())
	}
	return unlike(m.Result(), want)
}

// risen tells what of stamps isn't as it must be.
func risen(l []api.Access, budget int64) string {
	if int64(len(l)) != budget {
		return fmt.Sprintf("%d accesses of %d", len(l), budget)
	}
	for i, a := range l {
		if i == 0 && a.Stamp != 0 || a.Stamp >= 24*(budget+1) {
			return fmt.Sprintf("access %d at %d", i, a.Stamp)
		}
		if i > 0 && !slices.Contains([]int64{3, 6, 12, 24}, a.Stamp-l[i-1].Stamp) {
			return fmt.Sprintf("access %d at %d, behind %d", i, a.Stamp, l[i-1].Stamp)
		}
	}
	return ""
}

// chance is numbers that follow one another.
type chance uint64

func (x *chance) next(n int) int {
	*x = *x*6364136223846793005 + 1442695040888963407
	return int(uint64(*x) >> 33 % uint64(n))
}

// bytes is so many bytes.
func (x *chance) bytes(n int) []byte {
	l := make([]byte, n)
	for i := range l {
		l[i] = byte(x.next(256))
	}
	return l
}

// edges is edges of all lines, rising, but few of reset.
func (x *chance) edges(most, apart int) []api.Edge {
	var l []api.Edge
	stamp := int64(0)
	for range x.next(most + 1) {
		stamp += int64(x.next(apart))
		e := api.Edge{Stamp: stamp, Line: uint8(x.next(4)), Up: x.next(2) == 0}
		if e.Line == api.LineReset && x.next(4) > 0 {
			e.Up = false
		}
		l = append(l, e)
	}
	return l
}

// script is one of a program that opens memory and devices, turns the timer on and lets all ask, and of bytes of all sorts behind.
func (x *chance) script(t *testing.T, most int) api.Script {
	t.Helper()
	rom := x.bytes(api.PageSize)
	copy(rom, octets(t, opens+"62 8D 00 0C A9 01 8D 01 0C 58"))
	copy(rom[0x1FF6:], []byte{0x00, 0xF0, 0x00, 0xF1, 0x00, 0xF2, 0x00, 0xF3, 0x00, 0xE0})
	if x.next(2) == 0 {
		rom[0x1000], rom[0x1100], rom[0x1300] = 0x40, 0x40, 0x40
		copy(rom[0x1200:], []byte{0x8D, 0x03, 0x14, 0x40})
	}
	s := api.Script{
		Rom:    rom,
		Feeds:  api.Feeds{Vdc: x.bytes(20), Vce: x.bytes(20), Port: x.bytes(20)},
		Edges:  x.edges(30, 2000),
		Budget: int64(x.next(most)),
	}
	if f := script.Check(s); f != (api.Fault{}) {
		t.Fatalf("%v", f)
	}
	return s
}
