package walk_test

import (
	"bytes"
	"fmt"
	"slices"
	"strconv"
	"strings"
	"testing"

	"gannet/api"
	"gannet/bus"
	"gannet/cart"
	"gannet/enter"
	"gannet/hard"
	"gannet/irq"
	"gannet/script"
	"gannet/seq"
	"gannet/timing"
	"gannet/walk"
)

// octets is bytes, written in hexadecimal digits, with blanks between.
func octets(t *testing.T, text string) []byte {
	t.Helper()
	var l []byte
	for _, word := range strings.Fields(text) {
		v, err := strconv.ParseUint(word, 16, 8)
		if err != nil {
			t.Fatalf("%s: no byte", word)
		}
		l = append(l, byte(v))
	}
	return l
}

// Where the kinds go in the scripts of run: irq2, irq1, timer, nmi, reset. RTI stands at each place but the last one; the timer is answered ahead of it.
const (
	atIrq2  = 0xF000
	atIrq1  = 0xF100
	atTimer = 0xF200
	atNmi   = 0xF300
	atReset = 0xE000
)

// opens is what most programs begin with: work memory in page 1, devices in page 0, A is 0xFF; it takes 14 accesses.
const opens = "A9 F8 53 02 A9 FF 53 01 "

// run is a script: code at 0xE000, an image of one page, edges and a budget.
func run(t *testing.T, code string, budget int64, edges ...api.Edge) api.Script {
	t.Helper()
	rom, e := cart.Program(0, octets(t, code), [5]uint16{atIrq2, atIrq1, atTimer, atNmi, atReset})
	if e != api.OK {
		t.Fatalf("%s: %d", code, e)
	}
	const rti = 0x40
	for _, at := range []int{atIrq2, atIrq1, atTimer, atNmi} {
		rom[at-atReset] = rti
	}
	// A is kept; the timer's asking is answered by a byte that is written to 0x1403.
	copy(rom[atTimer-atReset:], octets(t, "8D 03 14 40"))
	return api.Script{Rom: rom, Edges: edges, Budget: budget}
}

func up(stamp int64, line uint8) api.Edge { return api.Edge{Stamp: stamp, Line: line, Up: true} }

func down(stamp int64, line uint8) api.Edge { return api.Edge{Stamp: stamp, Line: line} }

// told is marks, written: the stamp, and an entry's name, or the byte in two digits.
func told(l []walk.Mark) string {
	var words []string
	for _, m := range l {
		what := fmt.Sprintf("%02X", m.Code)
		if m.Entry != 0 {
			what = irq.Name(m.Entry)
		}
		words = append(words, fmt.Sprintf("%d:%s", m.Stamp, what))
	}
	return strings.Join(words, " ")
}

// marks is what was done of a script that may be run.
func marks(t *testing.T, s api.Script) []walk.Mark {
	t.Helper()
	l, f := walk.Marks(s)
	if f != (api.Fault{}) {
		t.Fatalf("%v", f)
	}
	return l
}

// result is what comes of a script that may be run.
func result(t *testing.T, s api.Script) api.Result {
	t.Helper()
	r, f := walk.Run(s)
	if f != (api.Fault{}) {
		t.Fatalf("%v", f)
	}
	return r
}

// does holds what was done of a script against what is written here, and all its answers against one another.
func does(t *testing.T, name string, s api.Script, want string) {
	t.Helper()
	if got := told(marks(t, s)); got != want {
		t.Errorf("%s: %s, not %s", name, got, want)
	}
	holds(t, name, s)
}

// road is a run by another road: what was done, and how many accesses that took.
type road struct {
	marks []walk.Mark
	takes []int
	bus   *bus.Bus
}

// cycles is a script's run cycle by cycle, as layer 32 does instructions and entries.
func cycles(t *testing.T, s api.Script) road {
	t.Helper()
	page, f := hard.New(s.Feeds, s.Edges)
	if f != (api.Fault{}) {
		t.Fatalf("%v", f)
	}
	r := road{bus: bus.New(s.Rom, page, s.Budget)}
	q := seq.New(enter.Begin(), r.bus)
	kind := uint8(api.ByReset)
	for r.bus.Left() > 0 {
		m := walk.Mark{Stamp: r.bus.Now(), Entry: kind}
		left := r.bus.Left()
		if kind != 0 && !q.Enter(kind) {
			t.Fatalf("kind %d isn't entered", kind)
		}
		if !q.Step() {
			break
		}
		m.State = q.State()
		r.marks, r.takes = append(r.marks, m), append(r.takes, int(left-r.bus.Left()))
		kind = r.bus.Choose(m.State.P&api.FlagI != 0)
	}
	return r
}

// holds holds all that is answered of a script against the same script run cycle by cycle, and against what its accesses do to devices and memory.
func holds(t *testing.T, name string, s api.Script) {
	t.Helper()
	was := fmt.Sprint(s)
	r, l := result(t, s), marks(t, s)
	other := cycles(t, s)
	if u := unlike(r, l, other); u != "" {
		t.Errorf("%s: %s", name, u)
		return
	}
	if u := replayed(r, l, other.takes, s); u != "" {
		t.Errorf("%s: %s", name, u)
	}
	if u := counted(s, l); u != "" {
		t.Errorf("%s: %s", name, u)
	}
	if u := followed(s, l); u != "" {
		t.Errorf("%s: %s", name, u)
	}
	if fmt.Sprint(s) != was {
		t.Errorf("%s: the script was changed", name)
	}
}

// same tells whether pieces are alike.
func same(a, b []api.Piece) bool {
	return slices.EqualFunc(a, b, func(x, y api.Piece) bool { return x.At == y.At && bytes.Equal(x.Bytes, y.Bytes) })
}

// unlike tells what of a result and its marks isn't as the other road has it.
func unlike(r api.Result, l []walk.Mark, other road) string {
	last := enter.Begin()
	if n := len(other.marks); n > 0 {
		last = other.marks[n-1].State
	}
	trace := other.bus.Trace()
	n := 0
	for i, m := range other.marks {
		if m.Entry == 0 {
			other.marks[i].Code = trace[n].Data
		}
		n += other.takes[i]
	}
	switch {
	case !slices.Equal(r.Trace, trace):
		return fmt.Sprintf("%d accesses, not %d", len(r.Trace), len(trace))
	case !slices.Equal(l, other.marks):
		return fmt.Sprintf("marks: %s, not %s", told(l), told(other.marks))
	case r.State != last:
		return fmt.Sprintf("registers: %v, not %v", r.State, last)
	case r.Steps != len(other.marks):
		return fmt.Sprintf("%d steps", r.Steps)
	case r.Now != other.bus.Now():
		return fmt.Sprintf("now %d", r.Now)
	case !same(r.Ram, other.bus.Ram()):
		return "memory"
	case r.Status != other.bus.Status():
		return fmt.Sprintf("devices: %v, not %v", r.Status, other.bus.Status())
	}
	return ""
}

// replayed does the accesses of a run to devices alone: at each boundary they must ask for what was entered.
func replayed(r api.Result, l []walk.Mark, takes []int, s api.Script) string {
	page, _ := hard.New(s.Feeds, s.Edges)
	memory := make([]byte, api.PageSize)
	do := func(l []api.Access) string {
		for i, x := range l {
			page.To(x.Stamp)
			bank, off := x.Addr>>13, x.Addr&0x1FFF
			if (x.Kind == api.Fetch) != (i == 0 && x.Kind == api.Fetch) {
				return fmt.Sprintf("a Fetch at %d", x.Stamp)
			}
			switch {
			case bank == 255 && x.Write:
				page.Write(uint16(off), x.Data)
			case bank == 255:
				if v := page.Read(uint16(off)); v != x.Data {
					return fmt.Sprintf("%d is read at %d, not %d", x.Data, x.Stamp, v)
				}
			case 248 <= bank && bank <= 251 && x.Write:
				memory[off] = x.Data
			case 248 <= bank && bank <= 251 && memory[off] != x.Data:
				return fmt.Sprintf("%d is read at %d, not %d", x.Data, x.Stamp, memory[off])
			}
		}
		return ""
	}
	rest := r.Trace
	kind, masked := uint8(api.ByReset), true
	for i, m := range l {
		if i > 0 {
			kind = page.Choose(masked)
		}
		if m.Entry != kind {
			return fmt.Sprintf("%d at %d, not %d", m.Entry, m.Stamp, kind)
		}
		if m.Stamp != rest[0].Stamp || takes[i] > timing.Longest() || kind != 0 && takes[i] != 8 || kind == 0 && rest[0].Kind != api.Fetch {
			return fmt.Sprintf("a step at %d, of %d", m.Stamp, takes[i])
		}
		page.Entered(kind)
		if u := do(rest[:takes[i]]); u != "" {
			return u
		}
		rest, masked = rest[takes[i]:], m.State.P&api.FlagI != 0
	}
	if len(rest) > 0 {
		if len(l) > 0 {
			kind = page.Choose(masked)
		}
		page.Entered(kind)
	}
	if u := do(rest); u != "" {
		return u
	}
	switch pieces, _ := cart.Pieces(memory); {
	case !same(r.Ram, pieces):
		return fmt.Sprintf("memory: %v, not %v", r.Ram, pieces)
	case r.Status != page.Status():
		return fmt.Sprintf("devices: %v, not %v", r.Status, page.Status())
	}
	return ""
}

// counted holds Entries against marks.
func counted(s api.Script, l []walk.Mark) string {
	var want [6]int
	for _, m := range l {
		for kind := api.ByReset; kind <= api.ByIrq2; kind++ {
			if int(m.Entry) == kind {
				want[kind]++
			}
		}
	}
	if got, f := walk.Entries(s); got != want || f != (api.Fault{}) {
		return fmt.Sprintf("entries %v, %v, not %v", got, f, want)
	}
	return ""
}

// followed holds After against marks: the first few ones, and those about the last one.
func followed(s api.Script, l []walk.Mark) string {
	for _, n := range []int{-1 << 63, -1, 0, 1, 2, len(l) / 2, len(l) - 1, len(l), len(l) + 1, len(l) + 2, 1<<63 - 1} {
		var want api.State
		switch {
		case n == 0:
			want = enter.Begin()
		case 0 < n && n <= len(l):
			want = l[n-1].State
		}
		if got, ok := walk.After(s, n); got != want || ok != (0 <= n && n <= len(l)) {
			return fmt.Sprintf("after %d: %v, %v, not %v", n, got, ok, want)
		}
	}
	return ""
}

// chance is numbers that follow one another.
type chance uint64

func (x *chance) next(n int) int {
	*x = *x*6364136223846793005 + 1442695040888963407
	return int(uint64(*x) >> 33 % uint64(n))
}

// bytes is so many bytes.
func (x *chance) bytes(n int) []byte {
	l := make([]byte, n)
	for i := range l {
		l[i] = byte(x.next(256))
	}
	return l
}

// edges is edges of all lines, rising, but few of reset.
func (x *chance) edges(most, apart int) []api.Edge {
	var l []api.Edge
	stamp := int64(0)
	for range x.next(most + 1) {
		stamp += int64(x.next(apart))
		e := api.Edge{Stamp: stamp, Line: uint8(x.next(4)), Up: x.next(2) == 0}
		if e.Line == api.LineReset && x.next(4) > 0 {
			e.Up = false
		}
		l = append(l, e)
	}
	return l
}

// script is one of a program that opens memory and devices, turns the timer on and lets all ask, and of bytes of all sorts behind.
func (x *chance) script(t *testing.T) api.Script {
	t.Helper()
	rom := x.bytes(api.PageSize)
	copy(rom, octets(t, opens+"62 8D 00 0C A9 01 8D 01 0C 58"))
	copy(rom[0x1FF6:], []byte{0x00, 0xF0, 0x00, 0xF1, 0x00, 0xF2, 0x00, 0xF3, 0x00, 0xE0})
	if x.next(2) == 0 {
		rom[0x1000], rom[0x1100], rom[0x1300] = 0x40, 0x40, 0x40
		copy(rom[0x1200:], []byte{0x8D, 0x03, 0x14, 0x40})
	}
	s := api.Script{
		Rom:    rom,
		Feeds:  api.Feeds{Vdc: x.bytes(20), Vce: x.bytes(20), Port: x.bytes(20)},
		Edges:  x.edges(30, 2000),
		Budget: int64(x.next(3000)),
	}
	if f := script.Check(s); f != (api.Fault{}) {
		t.Fatalf("%v", f)
	}
	return s
}
