package seq_test

import (
	"testing"

	"gannet/api"
	"gannet/bus"
	"gannet/hard"
	"gannet/micro"
	"gannet/seq"
)

// P32.1: registers at a boundary; the bus isn't touched.
func TestNew(t *testing.T) {
	for _, s := range []api.State{{}, base(), {A: 1, X: 2, Y: 3, S: 4, P: 0xFF, PC: 5, Mpr: [8]byte{6, 7, 8, 9, 10, 11, 12, 13}, Last: 14}} {
		b := on(t, image(), 100)
		b.Ask(true)
		q := seq.New(s, b)
		if got := q.State(); got != s || !q.Idle() || q.Steps() != 0 || len(b.Trace()) != 0 || b.Left() != 100 || b.Fast() {
			t.Errorf("%v, not %v; %v, %d", got, s, q.Idle(), q.Steps())
		}
	}
}

// P32.1: Fast is as the bus has it, whatever the registers tell.
func TestNewFast(t *testing.T) {
	for _, told := range []bool{false, true} {
		for _, fast := range []bool{false, true} {
			b, s := on(t, image(), 100), base()
			b.Ask(fast)
			b.Turn()
			s.Fast = told
			q := seq.New(s, b)
			s.Fast = fast
			if got := q.State(); got != s {
				t.Errorf("told %v, fast %v: %v", told, fast, got)
			}
			q.Step()
			if s.PC++; q.State() != s {
				t.Errorf("told %v, fast %v, behind a step: %v", told, fast, q.State())
			}
		}
	}
}

// The example of the chapter.
func TestExample(t *testing.T) {
	q := seq.New(base(), laid(t, base(), "A5 10", "81", 100))
	for n, want := range []bool{false, false, false, true} {
		if got := q.Cycle(); got != want || q.Idle() != want {
			t.Errorf("cycle %d: %v, %v", n, got, q.Idle())
		}
	}
	if got, want := q.State(), with(t, base(), "A=81 P=N PC=E002"); got != want || q.Steps() != 1 {
		t.Errorf("%v, not %v; %d", got, want, q.Steps())
	}
}

// P32.1: registers are told at boundaries alone, whatever changes between; each boundary counts.
func TestState(t *testing.T) {
	s := base()
	q := seq.New(s, laid(t, s, "A9 05 48 A2 07 D4 80 FE", "", 100))
	for n, x := range []struct {
		cycles int
		behind string
	}{{2, "A=05 PC=E002"}, {3, "S=FE PC=E003"}, {2, "X=07 PC=E005"}, {3, "PC=E006 F=1"}, {4, ""}, {4, ""}} {
		for range x.cycles - 1 {
			if q.Cycle() || q.Idle() || q.State() != s || q.Steps() != n {
				t.Errorf("step %d: %v, not %v; %v, %d", n, q.State(), s, q.Idle(), q.Steps())
			}
		}
		s = with(t, s, x.behind)
		if !q.Cycle() || !q.Idle() || q.State() != s || q.Steps() != n+1 {
			t.Errorf("behind step %d: %v, not %v; %v, %d", n, q.State(), s, q.Idle(), q.Steps())
		}
	}
}

// P32.1: what is asked of the bus from outside is told at the next boundary.
func TestStateOutside(t *testing.T) {
	b := on(t, image(), 100)
	q := seq.New(base(), b)
	b.Ask(true)
	b.Turn()
	if q.State() != base() {
		t.Errorf("%v", q.State())
	}
	if q.Step(); q.State() != with(t, base(), "PC=E001 F=1") {
		t.Errorf("%v", q.State())
	}
	q.Cycle()
	b.Ask(false)
	if q.Cycle(); q.State() != with(t, base(), "PC=E002") || b.Fast() {
		t.Errorf("%v", q.State())
	}
}

// program is the ops of a text.
func program(t *testing.T, text string) []micro.Op {
	t.Helper()
	l, f := micro.Read(text)
	if f != (api.Fault{}) {
		t.Fatalf("%s: %v", text, f)
	}
	return l
}

// P32.2, P32.6: ops, accesses and registers that are written here; the registers' page 1 has 81 05 at 0x10.
func TestByHand(t *testing.T) {
	for _, x := range []struct{ code, ahead, ops, told, behind string }{
		{"EA", "P=T", "F... D..!", "F0:EA D1:EA", "P= PC=E001"},
		{"0B", "", "F... D..!", "F0:0B D1:EA", "PC=E001"},
		{"69 01", "A=09", "F... O..!", "F0:69 O1:01", "A=0A PC=E002"},
		{"69 01", "A=09 P=D", "F... O..! D.D.", "F0:69 O1:01 D2:EA", "A=10 PC=E002"},
		{"69 01", "A=09 X=11 P=T", "F... O..! LxT. D.T! SxT.", "F0:69 O1:01 L1F0011:05 D2:EA S1F0011:06", "P= PC=E002"},
		{"65 10", "A=09 X=11 P=DT", "F... O... D... Lv.! LxT. D.T! SxT. D.D.", "F0:65 O1:10 D2:EA L1F0010:81 L1F0011:05 D2:EA S1F0011:86 D2:EA", "P=ND PC=E002"},
		{"E9 01", "A=09 X=11 P=TC", "F... O..!", "F0:E9 O1:01", "A=08 P=C PC=E002"},
		{"E9 01", "A=10 P=DTC", "F... O..! D.D.", "F0:E9 O1:01 D2:EA", "A=09 P=DC PC=E002"},
		{"B1 10", "Y=02", "F... O... D... Ll.. Lh.. D... Lv.!", "F0:B1 O1:10 D2:EA L1F0010:81 L1F0011:05 D2:EA L1FE583:21", "A=21 PC=E002"},
		{"92 10", "A=33 M0=01", "F... O... D... Ll.. Lh.. D... Ss..", "F0:92 O1:10 D2:EA L1F0010:81 L1F0011:05 D2:EA S2581:33", "PC=E002"},
		{"64 10", "A=33", "F... O... D... Ss..", "F0:64 O1:10 D2:EA S1F0010:00", "PC=E002"},
		{"06 10", "", "F... O... D... Lv.. D..! Sr..", "F0:06 O1:10 D2:EA L1F0010:81 D2:EA S1F0010:02", "P=C PC=E002"},
		{"97 11", "", "F... O... D... Lv.. D... D..! Sr..", "F0:97 O1:11 D2:EA L1F0011:05 D2:EA D2:EA S1F0011:07", "PC=E002"},
		{"0A", "A=81", "F... D..!", "F0:0A D1:EA", "A=02 P=C PC=E001"},
		{"22", "A=01 X=02", "F... D... D..!", "F0:22 D1:EA D1:EA", "A=02 X=01 PC=E001"},
		{"D4", "", "F... D... D..!", "F0:D4 D1:EA D1:EA", "PC=E001 F=1"},
		{"53 06", "A=F8", "F... O... D... D... D..!", "F0:53 O1:06 D2:EA D2:EA D2:EA", "M1=F8 M2=F8 L=F8 PC=E002"},
		{"43 04", "A=F8", "F... O... D... D..!", "F0:43 O1:04 D2:EA D2:EA", "A=01 L=01 PC=E002"},
		{"13 07", "", "F... O... D... Sp..", "F0:13 O1:07 D2:EA S1FE002:07", "PC=E002"},
		{"93 80 10 20", "", "F... O... O... O... D... D... Lv.. D..!", "F0:93 O1:80 O2:10 O3:20 D4:EA D4:EA L1F0010:81 D4:EA", "P=N PC=E004"},
		{"D0 02", "P=Z", "F... O...", "F0:D0 O1:02", "PC=E002"},
		{"D0 FE", "", "F... O... D.B. D.B!", "F0:D0 O1:FE D2:EA D2:EA", "PC=E000"},
		{"80 02", "", "F... O... D... D..!", "F0:80 O1:02 D2:EA D2:EA", "PC=E004"},
		{"0F 10 05", "", "F... O... O... D... Lv.. D...", "F0:0F O1:10 O2:05 D3:EA L1F0010:81 D3:EA", "PC=E003"},
		{"1F 10 05", "", "F... O... O... D... Lv.. D... D.B. D.B!", "F0:1F O1:10 O2:05 D3:EA L1F0010:81 D3:EA D3:EA D3:EA", "PC=E008"},
		{"44 10", "", "F... O... D... PH.. PL.. D... D... D..!", "F0:44 O1:10 D2:EA P1F01FF:E0 P1F01FE:01 D2:EA D2:EA D2:EA", "S=FD PC=E012"},
		{"20 34 12", "S=00", "F... O... O... D... PH.. PL.. D..!", "F0:20 O1:34 O2:12 D3:EA P1F0100:E0 P1F01FF:02 D3:EA", "S=FE PC=1234"},
		{"7C 0E 20", "X=02", "F... O... O... D... Ll.. Lh.. D..!", "F0:7C O1:0E O2:20 D3:EA L1F0010:81 L1F0011:05 D3:EA", "PC=0581"},
		{"00 55", "P=DTC", "F... O... Ph.. Pl.. Pf.. Vl.. Vh.. D..!", "F0:00 O1:55 P1F01FF:E0 P1F01FE:02 P1F01FD:19 V1FF6:25 V1FF7:E2 D2:EA", "S=FC P=IC PC=E225"},
		{"60", "S=FD", "F... D... D... Ul.. Uh.. D... D..!", "F0:60 D1:EA D1:EA U1F01FE:00 U1F01FF:00 D1:EA D1:EA", "S=FF PC=0001"},
		{"40", "S=FF M1=02", "F... D... D... Uf.. Ul.. Uh.. D..!", "F0:40 D1:EA D1:EA U4100:20 U4101:21 U4102:22 D1:EA", "S=02 P=T PC=2221"},
		{"08", "P=NTZ", "F... D... Pf..", "F0:08 D1:EA P1F01FF:92", "P=NZ S=FE PC=E001"},
		{"28", "M1=03", "F... D... D... Uv.!", "F0:28 D1:EA D1:EA U6100:30", "S=00 P=T PC=E001"},
		{"7A", "M1=03 S=9F", "F... D... D... Uv.!", "F0:7A D1:EA D1:EA U61A0:D0", "S=A0 Y=D0 P=N PC=E001"},
		{"F3 10 20 20 20 03 00", "A=01 X=02 Y=03", "F... Py.. Pa.. Px.. O... O... O... O... O... O... D... D.N. LmN. D.N. D.N. SmN. D.N. D.N. LmN. D.N. D.N. SmN. D.N. D.N. LmN. D.N. D.N. SmN. D.N. D... Ux.. Ua.. Uy.. D... D..!",
			"F0:F3 P1F01FF:03 P1F01FE:01 P1F01FD:02 O1:10 O2:20 O3:20 O4:20 O5:03 O6:00 D7:EA D7:EA L1F0010:81 D7:EA D7:EA S1F0020:81 D7:EA D7:EA L1F0011:05 D7:EA D7:EA S1F0021:05 D7:EA D7:EA L1F0010:81 D7:EA D7:EA S1F0022:81 D7:EA D7:EA U1F01FD:02 U1F01FE:01 U1F01FF:03 D7:EA D7:EA", "PC=E007"},
	} {
		s := with(t, base(), x.ahead)
		b := laid(t, s, x.code, "81 05", 1000)
		q := seq.New(s, b)
		follows(t, q, b, program(t, x.ops))
		s.P &^= api.FlagT
		if got, want := q.State(), with(t, s, x.behind); got != want {
			t.Errorf("%s, %s: %v, not %v", x.code, x.ahead, got, want)
		}
		if got := told(b.Trace()); got != x.told {
			t.Errorf("%s, %s:\n%s, not\n%s", x.code, x.ahead, got, x.told)
		}
	}
}

// P32.4: Step goes on to the next boundary from wherever it is, a cycle at least.
func TestStep(t *testing.T) {
	for cycles := range 7 {
		b := laid(t, base(), "AD 10 20 EA 65 11", "81 05", 100)
		q := seq.New(base(), b)
		for range cycles {
			q.Cycle()
		}
		ends := []int{5, 7, 11}
		for _, end := range ends {
			if end <= cycles {
				continue
			}
			if !q.Step() || !q.Idle() || len(b.Trace()) != end {
				t.Errorf("behind %d cycles: %v, %d accesses, not %d", cycles, q.Idle(), len(b.Trace()), end)
			}
		}
		if got := q.State(); got != with(t, base(), "A=86 P=N PC=E006") || q.Steps() != 3 {
			t.Errorf("behind %d cycles: %v, %d", cycles, got, q.Steps())
		}
	}
}

// P32.4: a bus that is over ahead of the next boundary; where it is over doesn't matter.
func TestStepOver(t *testing.T) {
	for budget := range int64(6) {
		b := laid(t, base(), "AD 10 20", "81", budget)
		q := seq.New(base(), b)
		if got := q.Step(); got != (budget == 5) || b.Over() != (budget < 5) || int64(len(b.Trace())) != budget {
			t.Errorf("budget %d: %v, over %v, %s", budget, got, b.Over(), told(b.Trace()))
		}
		if budget < 4 && (q.State() != base() || q.Idle() || q.Steps() != 0) {
			t.Errorf("budget %d: %v, %v, %d", budget, q.State(), q.Idle(), q.Steps())
		}
		if budget < 5 && q.Step() {
			t.Errorf("budget %d: a step behind the end", budget)
		}
	}
	b := laid(t, base(), "EA", "", 2)
	q := seq.New(base(), b)
	b.Read(0, api.Load)
	b.Read(0, api.Load)
	b.Read(0, api.Load)
	if q.Step() || q.Idle() {
		t.Error("a step of a bus that is over already")
	}
}

// P32.4: a block that the bus doesn't hold ends: as soon as no access is left no further byte is begun.
func TestStepBlockOver(t *testing.T) {
	b := laid(t, base(), "73 10 20 20 20 00 00", "81", 1000)
	q := seq.New(base(), b)
	if q.Step() || len(b.Trace()) != 1000 || !b.Over() {
		t.Errorf("%d accesses", len(b.Trace()))
	}
	n := 0
	for ; !q.Idle() && n < 20; n++ {
		q.Cycle()
	}
	if !q.Idle() || n > 12 {
		t.Errorf("behind %d cycles", n)
	}
}

// P32.4, P32.6: a byte that was begun is gone through, whatever is left; then the registers are pulled.
func TestBlockCycles(t *testing.T) {
	// With fewer accesses bytes behind are read as 255, so that it is another block.
	for budget := 10; budget < 40; budget++ {
		q := seq.New(base(), laid(t, base(), "73 10 20 20 20 03 00", "81", int64(budget)))
		cycles := 1
		for !q.Cycle() {
			cycles++
		}
		begun := min(max(budget-11+5, 0)/6, 3)
		if cycles != 17+6*begun {
			t.Errorf("budget %d: %d cycles, not %d", budget, cycles, 17+6*begun)
		}
	}
}

// P32.5: nil is not at a boundary, and does nothing.
func TestNil(t *testing.T) {
	var q *seq.Seq
	for kind := range 256 {
		if q.Enter(uint8(kind)) {
			t.Errorf("kind %d is entered", kind)
		}
	}
	op, ok := q.Next()
	if q.Idle() || q.State() != (api.State{}) || q.Steps() != 0 || q.Cycle() || q.Step() || ok || op != (micro.Op{}) {
		t.Errorf("%v, %v", op, ok)
	}
}

// P1: what no call made, a nil bus, and one without a page: each call ends.
func TestNothing(t *testing.T) {
	lost := bus.New(image(), nil, 100)
	for n, q := range []*seq.Seq{{}, seq.New(base(), nil), seq.New(base(), lost), seq.New(base(), &bus.Bus{})} {
		for kind := range 7 {
			want := kind >= api.ByReset && kind <= api.ByIrq2
			if q.Enter(uint8(kind)) != want {
				t.Errorf("%d: entry %d", n, kind)
			}
			// 255 is read everywhere.
			if !q.Step() || want && q.State().PC != 0xFFFF {
				t.Errorf("%d, entry %d: %v", n, kind, q.State())
			}
			q.Cycle()
			q.Next()
			if !q.Step() || !q.Idle() {
				t.Errorf("%d: no boundary", n)
			}
		}
		if q.Steps() != 14 {
			t.Errorf("%d: %d steps", n, q.Steps())
		}
	}
}

// P5: two on two buses have nothing to do with one another; two on one bus work on it.
func TestApart(t *testing.T) {
	s := base()
	b, other := laid(t, s, "A9 05 85 10", "", 100), laid(t, s, "A9 06 85 11", "", 100)
	q, r := seq.New(s, b), seq.New(s, other)
	for range 6 {
		q.Cycle()
		r.Cycle()
	}
	if q.State() != with(t, s, "A=05 PC=E004") || r.State() != with(t, s, "A=06 PC=E004") || b.Peek(0x1F0010) != 5 || other.Peek(0x1F0011) != 6 {
		t.Errorf("%v, %v", q.State(), r.State())
	}
	third := seq.New(s, b)
	if third.Step(); len(b.Trace()) != 8 || third.State() != with(t, s, "A=05 PC=E002") || q.State() != with(t, s, "A=05 PC=E004") {
		t.Errorf("%v, %v", third.State(), q.State())
	}
}

// P32.6: what devices are read as is taken once, at its access.
func TestDevices(t *testing.T) {
	b := laid(t, base(), "AD 02 00 CD 02 00", "", 100)
	q := seq.New(base(), b)
	for n, want := range []int{0, 0, 0, 0, 1, 1, 1, 1, 1, 2} {
		q.Next()
		q.Cycle()
		if got := b.Status().Vdc; got != want {
			t.Errorf("cycle %d: %d bytes, not %d", n, got, want)
		}
	}
	p, _ := hard.New(api.Feeds{}, nil)
	b = bus.New([]byte{0xA5, 0x10}, p, 4)
	if q = seq.New(api.State{PC: 0x4000}, b); !q.Step() || b.Over() {
		t.Error("a budget that just is enough")
	}
}
