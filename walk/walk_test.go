package walk_test

import (
	"fmt"
	"slices"
	"testing"

	"gannet/api"
	"gannet/enter"
	"gannet/script"
	"gannet/timing"
	"gannet/walk"
)

// P34.1: no access at all: no step, and the registers with which all begins.
func TestNothing(t *testing.T) {
	s := run(t, "A9 05", 0, up(0, api.LineReset), up(0, api.LineNmi))
	r := result(t, s)
	if r.State != (api.State{P: api.FlagI}) || r.Steps != 0 || r.Now != 0 || len(r.Trace) != 0 || len(r.Ram) != 0 || r.Status != (api.Status{Left: 3072}) {
		t.Errorf("%v", r)
	}
	does(t, "a budget of 0", s, "")
}

// P34.1: the reset alone, access by access.
func TestReset(t *testing.T) {
	s := run(t, "A9 05", 8)
	r := result(t, s)
	if want := (api.State{S: 0xFD, P: api.FlagI, PC: 0xE000}); r.State != want || r.Steps != 1 || r.Now != 96 {
		t.Errorf("%v, %d steps, %d", r.State, r.Steps, r.Now)
	}
	want := []api.Access{
		{Stamp: 0, Addr: 0, Kind: api.Dummy, Data: 0xA9}, {Stamp: 12, Addr: 0, Kind: api.Dummy, Data: 0xA9},
		{Stamp: 24, Addr: 0x100, Kind: api.Dummy}, {Stamp: 36, Addr: 0x1FF, Kind: api.Dummy}, {Stamp: 48, Addr: 0x1FE, Kind: api.Dummy},
		{Stamp: 60, Addr: 0x1FFE, Kind: api.Vector, Data: 0x00}, {Stamp: 72, Addr: 0x1FFF, Kind: api.Vector, Data: 0xE0}, {Stamp: 84, Addr: 0, Kind: api.Dummy, Data: 0xA9},
	}
	if !slices.Equal(r.Trace, want) {
		t.Errorf("%v", r.Trace)
	}
	does(t, "a budget of 8", s, "0:reset")
}

// P34.1, P34.2: a step that had too few accesses isn't done, though those that it had are told.
func TestCut(t *testing.T) {
	for _, c := range []struct {
		budget, now int64
		want        string
		a           byte
		pc          uint16
	}{
		{1, 12, "", 0, 0}, {7, 84, "", 0, 0}, {8, 96, "0:reset", 0, 0xE000}, {9, 108, "0:reset", 0, 0xE000},
		{10, 120, "0:reset 96:A9", 5, 0xE002}, {11, 132, "0:reset 96:A9", 5, 0xE002}, {12, 144, "0:reset 96:A9 120:A9", 6, 0xE004},
		{16, 192, "0:reset 96:A9 120:A9", 6, 0xE004}, {17, 204, "0:reset 96:A9 120:A9 144:AD", 0x2B, 0xE007},
	} {
		s := run(t, "A9 05 A9 06 AD 07 E0 2B 00", c.budget)
		r := result(t, s)
		if r.State.A != c.a || r.State.PC != c.pc || r.Now != c.now || int64(len(r.Trace)) != c.budget {
			t.Errorf("budget %d: %v, now %d, %d accesses", c.budget, r.State, r.Now, len(r.Trace))
		}
		if c.pc == 0 && r.State != enter.Begin() {
			t.Errorf("budget %d: %v", c.budget, r.State)
		}
		does(t, fmt.Sprint("budget ", c.budget), s, c.want)
	}
}

// P34.1: what asks when no access is left isn't entered: nmi stays risen. As soon as one is left its entry begins, though it isn't done.
func TestPending(t *testing.T) {
	for _, c := range []struct {
		budget int64
		steps  int
		nmi    bool
	}{{22, 5, false}, {23, 5, true}, {24, 6, true}, {25, 6, false}, {31, 6, false}, {32, 7, false}} {
		s := run(t, opens+"EA", c.budget, up(264, api.LineNmi))
		if r := result(t, s); r.Steps != c.steps || r.Status.Nmi != c.nmi {
			t.Errorf("budget %d: %d steps, %v", c.budget, r.Steps, r.Status.Nmi)
		}
		holds(t, fmt.Sprint("budget ", c.budget), s)
	}
}

// P34.2: what is done, by hand: registers behind each step, another speed from the next step on, an extra cycle.
func TestMarks(t *testing.T) {
	s := run(t, "A9 F8 53 02 D4 A9 FF 53 01 AD 00 00 54 EA EA", 8+7+3+7+6+3+2)
	s.Feeds.Vdc = []byte{0x85}
	begun := api.State{S: 0xFD, P: api.FlagI, PC: 0xE000}
	next := func(change func(s *api.State)) api.State {
		change(&begun)
		return begun
	}
	want := []walk.Mark{
		{0, api.ByReset, 0, next(func(*api.State) {})},
		{96, 0, 0xA9, next(func(s *api.State) { s.A, s.PC, s.P = 0xF8, 0xE002, api.FlagI|api.FlagN })},
		{120, 0, 0x53, next(func(s *api.State) { s.PC, s.Mpr[1], s.Last = 0xE004, 0xF8, 0xF8 })},
		{180, 0, 0xD4, next(func(s *api.State) { s.PC, s.Fast = 0xE005, true })},
		{216, 0, 0xA9, next(func(s *api.State) { s.PC, s.A = 0xE007, 0xFF })},
		{222, 0, 0x53, next(func(s *api.State) { s.PC, s.Mpr[0], s.Last = 0xE009, 0xFF, 0xFF })},
		// The fifth access is VDC's, and takes 6.
		{237, 0, 0xAD, next(func(s *api.State) { s.PC, s.A = 0xE00C, 0x85 })},
		{255, 0, 0x54, next(func(s *api.State) { s.PC, s.Fast = 0xE00D, false })},
		{264, 0, 0xEA, next(func(s *api.State) { s.PC = 0xE00E })},
	}
	l := marks(t, s)
	for i, m := range want {
		if i >= len(l) || l[i] != m {
			t.Fatalf("mark %d: %v, not %v", i, l[i:min(i+1, len(l))], m)
		}
	}
	if r := result(t, s); len(l) != len(want) || r.Now != 264+24+12 || r.State != begun {
		t.Errorf("%d marks, now %d, %v", len(l), r.Now, r.State)
	}
	holds(t, "by hand", s)
}

// P34.1, P34.5: lines that ask, one at a time: reset and nmi also while I is set, irq1 and irq2 only if it is clear.
func TestLines(t *testing.T) {
	for _, c := range []struct {
		name, code string
		budget     int64
		edges      []api.Edge
		want       string
	}{
		{"irq1", opens + "58 EA EA", 39, []api.Edge{up(0, api.LineIrq1)}, "0:reset 96:A9 120:53 180:A9 204:53 264:58 288:irq1 384:40"},
		{"irq2", opens + "58 EA EA", 39, []api.Edge{up(0, api.LineIrq2)}, "0:reset 96:A9 120:53 180:A9 204:53 264:58 288:irq2 384:40"},
		{"nmi, masked", opens + "EA EA", 39, []api.Edge{up(264, api.LineNmi)}, "0:reset 96:A9 120:53 180:A9 204:53 264:EA 288:nmi 384:40"},
		{"reset, masked", opens + "EA EA", 32, []api.Edge{up(270, api.LineReset), down(300, api.LineReset)}, "0:reset 96:A9 120:53 180:A9 204:53 264:EA 288:reset"},
		{"irq1, masked", opens + "EA EA EA", 28, []api.Edge{up(0, api.LineIrq1)}, "0:reset 96:A9 120:53 180:A9 204:53 264:EA 288:EA 312:EA"},
		{"irq2, masked", opens + "EA EA EA", 28, []api.Edge{up(0, api.LineIrq2)}, "0:reset 96:A9 120:53 180:A9 204:53 264:EA 288:EA 312:EA"},
		// A line is seen at the last access, which begins at 276; an edge there is, one behind it isn't.
		{"at the last access", opens + "58 EA EA", 32, []api.Edge{up(276, api.LineIrq1)}, "0:reset 96:A9 120:53 180:A9 204:53 264:58 288:irq1"},
		{"behind it", opens + "58 EA EA", 34, []api.Edge{up(277, api.LineIrq1)}, "0:reset 96:A9 120:53 180:A9 204:53 264:58 288:EA 312:irq1"},
		{"gone again", opens + "58 EA EA", 30, []api.Edge{up(265, api.LineIrq1), down(276, api.LineIrq1)}, "0:reset 96:A9 120:53 180:A9 204:53 264:58 288:EA 312:EA"},
		// It asks as long as it is up, but nmi once for each time it rose.
		{"again", opens + "58 EA EA", 47, []api.Edge{up(0, api.LineIrq1)}, "0:reset 96:A9 120:53 180:A9 204:53 264:58 288:irq1 384:40 468:irq1"},
		{"nmi once", opens + "EA EA EA", 43, []api.Edge{up(264, api.LineNmi)}, "0:reset 96:A9 120:53 180:A9 204:53 264:EA 288:nmi 384:40 468:EA 492:EA"},
		{"nmi twice", opens + "EA EA EA", 47, []api.Edge{up(270, api.LineNmi), down(271, api.LineNmi), up(400, api.LineNmi)}, "0:reset 96:A9 120:53 180:A9 204:53 264:EA 288:nmi 384:40 468:nmi"},
		{"reset, held", opens + "EA", 26, []api.Edge{up(0, api.LineReset)}, "0:reset 96:reset 192:reset"},
		{"reset, till it is down", opens + "EA", 26, []api.Edge{up(0, api.LineReset), down(150, api.LineReset)}, "0:reset 96:reset 192:A9 216:53 276:A9"},
	} {
		does(t, c.name, run(t, c.code, c.budget, c.edges...), c.want)
	}
}

// P34.1, P34.5: of several that ask at once the first one comes, then the next one, as long as they aren't masked.
func TestSeveral(t *testing.T) {
	const begin = "0:reset 96:A9 120:53 180:A9 204:53 264:58 "
	all := []api.Edge{up(270, api.LineReset), up(270, api.LineNmi), up(270, api.LineIrq1), up(270, api.LineIrq2)}
	does(t, "all", run(t, opens+"58 EA", 32, all...), begin+"288:reset")
	does(t, "but reset", run(t, opens+"58 EA", 39, all[1:]...), begin+"288:nmi 384:40")
	does(t, "nmi, then irq1", run(t, opens+"58 EA", 54, all[1:]...), begin+"288:nmi 384:40 468:irq1 564:40")
	does(t, "irq1, irq2", run(t, opens+"58 EA", 47, all[2], all[3]), begin+"288:irq1 384:40 468:irq1")
	does(t, "irq1, then irq2", run(t, opens+"58 EA", 47, all[2], all[3], down(400, api.LineIrq1)), begin+"288:irq1 384:40 468:irq2")
	// An entry sets I: nmi comes even so, irq2 doesn't.
	does(t, "within an entry", run(t, opens+"58 EA", 54, all[2], all[3], up(290, api.LineNmi), down(291, api.LineIrq1)), begin+"288:irq1 384:nmi 480:40 564:40")
}

// P34.5: a kind that is disabled doesn't come, another one does.
func TestDisabled(t *testing.T) {
	const begin = "0:reset 96:A9 120:53 180:A9 204:53 264:A9 288:8D 348:58 "
	code := func(mask string) string { return opens + "A9 " + mask + " 8D 02 14 58 EA EA" }
	both := []api.Edge{up(0, api.LineIrq1), up(0, api.LineIrq2)}
	does(t, "none", run(t, code("00"), 39, both...), begin+"372:irq1")
	does(t, "irq1", run(t, code("02"), 39, both...), begin+"372:irq2")
	does(t, "irq2", run(t, code("01"), 39, both...), begin+"372:irq1")
	does(t, "both", run(t, code("03"), 35, both...), begin+"372:EA 396:EA")
	does(t, "all", run(t, code("FF"), 43, append(both, up(360, api.LineNmi))...), begin+"372:nmi")
}

// P34.1, P34.5: the timer asks till it is answered, from the access on at which it is over; ahead of irq1, unless it is disabled.
func TestTimer(t *testing.T) {
	// Reload is 0; STZ is at 264, LDA at 324, STA at 348; what turns the timer on is written at 396.
	timed := func(more string) string { return opens + "9C 00 0C A9 01 8D 01 0C " + more }
	count := func(s api.Script) [6]int {
		n, _ := walk.Entries(s)
		return n
	}
	// It goes round till the timer comes.
	s := run(t, timed("58 80 FE"), 400)
	holds(t, "on", s)
	l := marks(t, s)
	at := slices.IndexFunc(l, func(m walk.Mark) bool { return m.Entry == api.ByTimer })
	if at < 0 {
		t.Fatalf("%s", told(l))
	}
	asked := int64(396 + 3072)
	// It is seen at the last access ahead of a boundary.
	if l[at].Stamp-12 < asked || l[at-1].Stamp-12 >= asked {
		t.Errorf("at %d, behind %d", l[at].Stamp, l[at-1].Stamp)
	}
	if got := count(s); got != [6]int{api.ByReset: 1, api.ByTimer: 1} {
		t.Errorf("%v", got)
	}
	s.Budget = 1500
	if got := count(s); got != [6]int{api.ByReset: 1, api.ByTimer: 5} {
		t.Errorf("%v", got)
	}
	holds(t, "on, longer", s)
	masked := run(t, timed("80 FE"), 1500)
	holds(t, "masked", masked)
	if got := count(masked); got != [6]int{api.ByReset: 1} || !result(t, masked).Status.Due {
		t.Errorf("masked: %v", got)
	}
	disabled := run(t, timed("A9 04 8D 02 14 58 80 FE"), 1500)
	holds(t, "disabled", disabled)
	if got := count(disabled); got != [6]int{api.ByReset: 1} {
		t.Errorf("disabled: %v", got)
	}
	// irq1 goes up as the timer asks; it comes behind it, and irq2 never does.
	s = run(t, timed("58 80 FE"), 360, up(asked, api.LineIrq1), up(asked, api.LineIrq2))
	holds(t, "with irq1", s)
	l = marks(t, s)
	at = slices.IndexFunc(l, func(m walk.Mark) bool { return m.Entry > api.ByReset })
	if at < 0 || l[at].Entry != api.ByTimer || at+3 >= len(l) || l[at+3].Entry != api.ByIrq1 || count(s)[api.ByIrq2] != 0 {
		t.Errorf("%s", told(l))
	}
}

// P34.2, P34.3: BRK goes where irq2 does, but is no entry; nor does I matter.
func TestBrk(t *testing.T) {
	does(t, "masked", run(t, opens+"00 99 EA", 39), "0:reset 96:A9 120:53 180:A9 204:53 264:00 360:40 444:EA")
	does(t, "not masked", run(t, opens+"58 00 99 EA", 41), "0:reset 96:A9 120:53 180:A9 204:53 264:58 288:00 384:40 468:EA")
	does(t, "irq2 asks", run(t, opens+"58 00 99 EA", 41, up(290, api.LineIrq2)), "0:reset 96:A9 120:53 180:A9 204:53 264:58 288:00 384:40")
	does(t, "irq2 asks, longer", run(t, opens+"58 00 99 EA", 47, up(290, api.LineIrq2)), "0:reset 96:A9 120:53 180:A9 204:53 264:58 288:00 384:40 468:irq2")
	if n, f := walk.Entries(run(t, opens+"00 99 EA", 39)); n != [6]int{api.ByReset: 1} || f != (api.Fault{}) {
		t.Errorf("%v, %v", n, f)
	}
}

// P34.3: how many of each kind.
func TestEntries(t *testing.T) {
	s := run(t, opens+"58 EA EA EA EA EA EA", 100,
		up(270, api.LineNmi), down(271, api.LineNmi), up(480, api.LineIrq1), down(500, api.LineIrq1), up(600, api.LineNmi), up(800, api.LineIrq2), down(870, api.LineIrq2), up(1010, api.LineReset), down(1025, api.LineReset))
	holds(t, "each", s)
	if n, f := walk.Entries(s); n != [6]int{0, 2, 2, 0, 1, 1} || f != (api.Fault{}) {
		t.Errorf("%v, %v: %s", n, f, told(marks(t, s)))
	}
}

// P34.1: a reset stops the timer, and is slow from then on; all other registers stay.
func TestResetAgain(t *testing.T) {
	s := run(t, opens+"D4 9C 00 0C 49 FE 8D 01 0C 58 EA 80 FD", 70, up(395, api.LineReset), down(402, api.LineReset))
	holds(t, "reset", s)
	l := marks(t, s)
	at := slices.IndexFunc(l, func(m walk.Mark) bool { return m.Stamp > 0 && m.Entry == api.ByReset })
	if at < 0 || !l[at-1].State.Fast || l[at].State.Fast || l[at].State.Mpr != [8]byte{0xFF, 0xF8} || l[at].State.PC != 0xE000 || l[at].State.S != 0xFA {
		t.Errorf("%s", told(l))
	}
	if r := result(t, s); r.Status.On {
		t.Errorf("%v", r.Status)
	}
}

// P34.5: nothing is entered within a block, whoever asks; then the first one is.
func TestBlock(t *testing.T) {
	code := opens + "58 73 00 E0 00 22 05 00 EA EA"
	const begin = "0:reset 96:A9 120:53 180:A9 204:53 264:58 288:73 "
	// 17 accesses, and 6 a byte: till 288 + 12 * 47.
	for _, stamp := range []int64{277, 300, 500, 700, 840} {
		does(t, fmt.Sprint("irq1 at ", stamp), run(t, code, 79, up(stamp, api.LineIrq1)), begin+"852:irq1")
		does(t, fmt.Sprint("all at ", stamp), run(t, code, 79, up(stamp, api.LineReset), up(stamp, api.LineNmi), up(stamp, api.LineIrq2)), begin+"852:reset")
	}
	does(t, "behind its last access", run(t, code, 81, up(841, api.LineNmi)), begin+"852:EA 876:nmi")
	does(t, "gone within", run(t, code, 73, up(300, api.LineIrq1), down(840, api.LineIrq1)), begin+"852:EA")
	r := result(t, run(t, code, 71))
	// Y is 0, A is pushed at 0x1FC, X is 0.
	if want := []api.Piece{{At: 0x1FC, Bytes: []byte{0xFF}}, {At: 0x200, Bytes: octets(t, "A9 F8 53 02 A9")}}; r.Steps != 7 || !same(r.Ram, want) {
		t.Errorf("%d steps, %v", r.Steps, r.Ram)
	}
}

// P34.1, P34.2: each budget up to one: of fewer accesses what is told is the beginning of what is told of more; what was done is told, up to the last step that is whole.
func TestBudgets(t *testing.T) {
	edges := []api.Edge{up(310, api.LineIrq1), down(900, api.LineIrq1), up(1000, api.LineNmi)}
	code := opens + "58 D4 F3 02 00 00 22 05 00 54 AD 02 04 8D 00 23 EE 00 23 EA EA EA"
	const most = 130
	all := marks(t, run(t, code, most, edges...))
	trace := result(t, run(t, code, most, edges...)).Trace
	if len(trace) != most || len(all) < 12 {
		t.Fatalf("%d accesses: %s", len(trace), told(all))
	}
	for budget := range int64(most) {
		s := run(t, code, budget, edges...)
		holds(t, fmt.Sprint("budget ", budget), s)
		l, r := marks(t, s), result(t, s)
		if len(l) > len(all) || !slices.Equal(l, all[:len(l)]) || !slices.Equal(r.Trace, trace[:budget]) {
			t.Errorf("budget %d: %s", budget, told(l))
		}
		// The next step isn't done as it hasn't all its accesses.
		if n := len(l); n+1 < len(all) && all[n+1].Stamp <= r.Now {
			t.Errorf("budget %d: %d steps by %d", budget, n, r.Now)
		}
		if n := len(l); n > 0 && n < len(all) && all[n].Stamp > r.Now {
			t.Errorf("budget %d: %d steps by %d", budget, n, r.Now)
		}
	}
}

// P34.1 to P34.5: programs of all sorts, run cycle by cycle beside, and held against what devices ask for.
func TestAll(t *testing.T) {
	x := chance(1)
	var sum [6]int
	for i := range 400 {
		s := x.script(t)
		holds(t, fmt.Sprint("script ", i), s)
		n, _ := walk.Entries(s)
		for kind := range n {
			sum[kind] += n[kind]
		}
	}
	for kind := api.ByReset; kind <= api.ByIrq2; kind++ {
		if sum[kind] < 20 {
			t.Errorf("kind %d: entered %d times only", kind, sum[kind])
		}
	}
}

// P34.4: by hand.
func TestWaits(t *testing.T) {
	row := func(stamps ...int64) []api.Access {
		var l []api.Access
		for _, stamp := range stamps {
			l = append(l, api.Access{Stamp: stamp})
		}
		return l
	}
	list := func(l ...int64) []walk.Mark {
		var m []walk.Mark
		for _, stamp := range l {
			m = append(m, walk.Mark{Stamp: stamp})
		}
		return m
	}
	entry := func(l []walk.Mark, places ...int) []walk.Mark {
		for _, i := range places {
			l[i].Entry = api.ByIrq1
		}
		return l
	}
	ten := row(0, 12, 24, 36, 48, 60, 72, 84, 96, 108)
	for _, c := range []struct {
		name  string
		l     []walk.Mark
		trace []api.Access
		want  int
	}{
		{"nothing", nil, nil, 0}, {"no marks", nil, ten, 0}, {"no trace", list(0, 12), nil, 0}, {"empty", []walk.Mark{}, []api.Access{}, 0},
		{"one mark", list(0), ten, 0}, {"two", list(0, 36), ten, 3}, {"the last one doesn't count", list(0, 12), ten, 1}, {"the greatest one", list(0, 24, 72, 84), ten, 4},
		{"the first one", list(0, 60, 72), ten, 5}, {"the last one but one", list(0, 12, 24, 108), ten, 7}, {"all", list(0, 108), ten, 9},
		{"entries don't count", entry(list(0, 60, 72, 96), 0), ten, 2}, {"up to an entry", entry(list(0, 60, 72), 1), ten, 5}, {"entries alone", entry(list(0, 60, 72), 0, 1, 2), ten, 0},
		{"an entry last", entry(list(0, 24, 72), 2), ten, 4}, {"all but the last one", entry(list(0, 24, 72), 0, 1), ten, 0},
		{"a first stamp that isn't there", list(1, 36, 48), ten, 1}, {"a next one that isn't", list(0, 37, 48), ten, 0}, {"none is there", list(-5, 1, 1000), ten, 0}, {"beyond", list(96, 120), ten, 0},
		{"below 0", list(-12, 0, 12), ten, 1}, {"only those within", list(24, 48, 120, 144), ten, 2},
		{"alike", list(24, 24), ten, 0}, {"falling", list(60, 24), ten, 0}, {"falling, then rising", list(60, 24, 36), ten, 1},
		{"the first one of a stamp", list(5, 9), row(5, 5, 5, 9, 9), 3}, {"ahead, and behind", list(5, 9), row(9, 5, 7, 9), 0}, {"a trace that falls", list(9, 3), row(9, 7, 5, 3), 3},
		{"a trace below 0", list(-7, -1), row(-7, -5, -1), 2},
	} {
		was := fmt.Sprint(c.l, c.trace)
		if got := walk.Waits(c.l, c.trace); got != c.want {
			t.Errorf("%s: %d, not %d", c.name, got, c.want)
		}
		if fmt.Sprint(c.l, c.trace) != was {
			t.Errorf("%s: changed", c.name)
		}
	}
}

// P34.4: of kinds of all sorts: such as is an entry doesn't wait.
func TestWaitsKinds(t *testing.T) {
	trace := []api.Access{{Stamp: 0}, {Stamp: 3}, {Stamp: 6}}
	for kind := range uint8(6) {
		want := 0
		if kind == api.Nothing {
			want = 2
		}
		if got := walk.Waits([]walk.Mark{{Stamp: 0, Entry: kind, Code: 0xEA}, {Stamp: 6, Entry: api.ByNmi}}, trace); got != want {
			t.Errorf("kind %d: %d", kind, got)
		}
	}
}

// P34.4, P34.5: of runs: the longest instruction that another step came behind; never more than timing.Longest.
func TestWaitsRun(t *testing.T) {
	for _, c := range []struct {
		name, code string
		budget     int64
		want       int
	}{
		{"the reset alone", opens, 8, 0}, {"one", opens, 10, 0}, {"two", opens, 15, 2}, {"three", opens, 17, 5},
		{"a block of 5", opens + "73 00 E0 00 22 05 00 EA", 22 + 47 + 2, 47}, {"a block of 5, last", opens + "73 00 E0 00 22 05 00 EA", 22 + 47, 5}, {"a block of 5, and a part", opens + "73 00 E0 00 22 05 00 EA", 22 + 47 + 1, 5},
		{"a block of all", opens + "C3 00 E0 00 60 00 00 EA", 22 + 17 + 6*65536 + 2, timing.Longest()},
	} {
		s := run(t, c.code, c.budget)
		if got := walk.Waits(marks(t, s), result(t, s).Trace); got != c.want {
			t.Errorf("%s: %d, not %d", c.name, got, c.want)
		}
	}
	x := chance(4)
	for range 50 {
		s := x.script(t)
		l, trace := marks(t, s), result(t, s).Trace
		want := 0
		for i, m := range l {
			n := 0
			for _, a := range trace {
				if i+1 < len(l) && m.Entry == 0 && m.Stamp <= a.Stamp && a.Stamp < l[i+1].Stamp {
					n++
				}
			}
			want = max(want, n)
		}
		if got := walk.Waits(l, trace); got != want || got > timing.Longest() {
			t.Errorf("%d, not %d", got, want)
		}
	}
}

// P34.5: a block of all 65536 bytes is the longest that one has to wait.
func TestLongest(t *testing.T) {
	const budget = 15 + 2 + 17 + 6*65536 + 8
	// No page is the devices', so that no access takes an extra cycle.
	s := run(t, "A9 F8 53 02 58 D3 00 E0 00 60 00 00", budget, up(17*12+1, api.LineIrq1))
	holds(t, "a block of all", s)
	l := marks(t, s)
	if want := "0:reset 96:A9 120:53 180:58 204:D3 " + fmt.Sprint(204+12*timing.Longest()) + ":irq1"; told(l) != want {
		t.Errorf("%s, not %s", told(l), want)
	}
	if got := walk.Waits(l, result(t, s).Trace); got != timing.Longest() {
		t.Errorf("%d", got)
	}
	// A budget that ends within it, near and far.
	for _, less := range []int64{8, 9, 15, 16, 100, 6 * 65536} {
		s.Budget = budget - less
		holds(t, fmt.Sprint("less ", less), s)
	}
}

// refused is scripts that may not be run.
func refused() []api.Script {
	image := make([]byte, api.PageSize)
	return []api.Script{
		{}, {Budget: 100}, {Rom: make([]byte, 100), Budget: 100}, {Rom: make([]byte, 129*api.PageSize)},
		{Rom: image, Feeds: api.Feeds{Vce: make([]byte, 10001)}, Budget: 100},
		{Rom: image, Edges: []api.Edge{{}, {Line: 4}}, Budget: 100},
		{Rom: image, Edges: []api.Edge{{Stamp: 5}, {Stamp: 5}, {Stamp: 4}}, Budget: 100},
		{Rom: image, Edges: make([]api.Edge, 1001), Budget: 100},
		{Rom: image, Budget: -1}, {Rom: image, Budget: 1<<40 + 1}, {Rom: image, Budget: 1<<63 - 1}, {Rom: image, Budget: -1 << 63},
		// Several faults at once.
		{Feeds: api.Feeds{Vdc: make([]byte, 10001)}, Edges: []api.Edge{{Line: 4}}, Budget: -1},
		{Rom: image, Edges: []api.Edge{{}, {}, {Line: 4}}, Budget: -1},
	}
}

// P34.1 to P34.3, P2: a script that may not be run has Check's fault, and nothing else.
func TestRefused(t *testing.T) {
	for i, s := range refused() {
		want := script.Check(s)
		if want == (api.Fault{}) {
			t.Fatalf("%d may be run", i)
		}
		r, f := walk.Run(s)
		if f != want || r.State != (api.State{}) || r.Steps != 0 || r.Now != 0 || len(r.Trace) != 0 || len(r.Ram) != 0 || r.Status != (api.Status{}) {
			t.Errorf("%d: %v, %v", i, f, r)
		}
		if l, f := walk.Marks(s); f != want || len(l) != 0 {
			t.Errorf("%d: %v, %v", i, f, l)
		}
		if n, f := walk.Entries(s); f != want || n != [6]int{} {
			t.Errorf("%d: %v, %v", i, f, n)
		}
		for _, n := range []int{-1, 0, 1, 5} {
			if got, ok := walk.After(s, n); ok || got != (api.State{}) {
				t.Errorf("%d: %v, %v", i, got, ok)
			}
		}
	}
}

// P34.3: few steps are answered even of a budget that would never end.
func TestAfterFew(t *testing.T) {
	s := run(t, opens+"EA 80 FD", api.MaxBudget)
	for n, pc := range []uint16{0, 0xE000, 0xE002, 0xE004, 0xE006, 0xE008, 0xE009, 0xE008, 0xE009} {
		if got, ok := walk.After(s, n); got.PC != pc || !ok {
			t.Errorf("%d: %v, %v", n, got, ok)
		}
	}
	if got, ok := walk.After(s, 5); got != (api.State{A: 0xFF, S: 0xFD, P: api.FlagI | api.FlagN, PC: 0xE008, Mpr: [8]byte{0xFF, 0xF8}, Last: 0xFF}) || !ok {
		t.Errorf("%v", got)
	}
}

// P3: what is handed in stays, spare room, too; what is answered is the caller's.
func TestApart(t *testing.T) {
	s := run(t, opens+"58 EE 00 22 AD 00 04 EA", 60)
	room := func(l ...byte) []byte { return append(l, 0xAA, 0xBB) }
	all := [][]byte{room(s.Rom...), room(1, 2), room(3, 4), room(5)}
	edges := []api.Edge{up(300, api.LineIrq1), down(400, api.LineIrq1), up(0, 99)}
	s.Rom, s.Feeds = all[0][:api.PageSize], api.Feeds{Vdc: all[1][:2], Vce: all[2][:2], Port: all[3][:1]}
	s.Edges = edges[:2]
	was := fmt.Sprint(all, edges)
	r, l := result(t, s), marks(t, s)
	walk.Entries(s)
	walk.After(s, 3)
	if fmt.Sprint(all, edges) != was {
		t.Error("it was changed")
	}
	told := fmt.Sprint(r, l)
	other := result(t, s)
	clear(other.Trace)
	for _, p := range other.Ram {
		clear(p.Bytes)
	}
	clear(other.Ram)
	clear(marks(t, s))
	if fmt.Sprint(r, l) != told || fmt.Sprint(result(t, s), marks(t, s)) != told {
		t.Error("they share something")
	}
}

// P5: the same is answered each time; an edge behind the last stamp doesn't matter.
func TestSame(t *testing.T) {
	x := chance(8)
	for range 20 {
		s := x.script(t)
		r := result(t, s)
		was := fmt.Sprint(r, marks(t, s))
		if again := fmt.Sprint(result(t, s), marks(t, s)); again != was {
			t.Error("another answer")
		}
		stamp := int64(-1)
		if n := len(r.Trace); n > 0 {
			stamp = r.Trace[n-1].Stamp
		}
		few := script.Until(s, stamp)
		if again := fmt.Sprint(result(t, few), marks(t, few)); again != was {
			t.Error("another answer without what lies behind")
		}
	}
}
