package clock_test

import (
	"math"
	"slices"
	"testing"

	"gannet/api"
	"gannet/clock"
)

const latest = 1 << 50

// stamps are stamps at which a clock is asked for, the edges among them.
var stamps = []int64{math.MinInt64, -latest, -1, 0, 1, 2, 3, 12, 1000, latest - 1, latest, latest + 1, math.MaxInt64}

// held is a stamp, held from 0 to 2^50.
func held(n int64) int64 {
	switch {
	case n < 0:
		return 0
	case n > latest:
		return latest
	}
	return n
}

// alike tells whether a clock is at a stamp, of a speed, behind so many cycles.
func alike(c *clock.Clock, now int64, fast bool, cycles int64) bool {
	return c.Now() == now && c.Fast() == fast && c.Cycles() == cycles
}

// row is n cycles; each third one has an extra one.
func row(n int) []bool {
	l := make([]bool, n)
	for i := range l {
		l[i] = i%3 == 1
	}
	return l
}

// P2.1: a cycle is 3 or 12 master clocks long, and twice that, if extra.
func TestLength(t *testing.T) {
	if clock.Length(true, false) != 3 || clock.Length(true, true) != 6 {
		t.Error("fast cycles")
	}
	if clock.Length(false, false) != 12 || clock.Length(false, true) != 24 {
		t.Error("slow cycles")
	}
	if clock.Length(true, false) != api.Fast || clock.Length(false, false) != api.Slow {
		t.Error("package api's lengths")
	}
}

// P2.2: a clock begins at the stamp, held from 0 to 2^50, at that speed, behind no cycles.
func TestAt(t *testing.T) {
	for _, now := range stamps {
		for _, fast := range []bool{false, true} {
			if c := clock.At(now, fast); !alike(c, held(now), fast, 0) {
				t.Errorf("At(%d, %v): %d, %v, %d", now, fast, c.Now(), c.Fast(), c.Cycles())
			}
		}
	}
}

// P2.2: New is at 0, and slow.
func TestNew(t *testing.T) {
	if !alike(clock.New(), 0, false, 0) {
		t.Error("a new clock")
	}
	if clock.New() == clock.New() {
		t.Error("two new clocks are one")
	}
}

// P2.2, P2.3: a cycle answers the stamp at which it begins; time and cycles go on, by an extra one, too.
func TestCycle(t *testing.T) {
	for _, from := range stamps {
		for _, fast := range []bool{false, true} {
			c := clock.At(from, fast)
			now, cycles := held(from), int64(0)
			for _, extra := range row(10) {
				if got := c.Cycle(extra); got != now {
					t.Errorf("from %d: begun at %d, not at %d", from, got, now)
				}
				now, cycles = now+clock.Length(fast, extra), cycles+1
				if extra {
					cycles++
				}
				if !alike(c, now, fast, cycles) {
					t.Errorf("from %d: %d, %v, %d", from, c.Now(), c.Fast(), c.Cycles())
				}
			}
		}
	}
}

// P2.3: what is asked for is so from the next Turn on, not ahead of it.
func TestAskAndTurn(t *testing.T) {
	for _, was := range []bool{false, true} {
		for _, fast := range []bool{false, true} {
			c := clock.At(5, was)
			c.Ask(fast)
			if !alike(c, 5, was, 0) {
				t.Error("a speed is changed ahead of the boundary")
			}
			c.Cycle(false)
			if !alike(c, 5+clock.Length(was, false), was, 1) {
				t.Error("a cycle of another speed ahead of the boundary")
			}
			now := c.Now()
			c.Turn()
			if !alike(c, now, fast, 1) {
				t.Error("what was asked isn't so, or the boundary takes time")
			}
			if c.Cycle(true); c.Now() != now+clock.Length(fast, true) {
				t.Error("a cycle of another speed behind the boundary")
			}
		}
	}
}

// P2.3: the last one that was asked counts.
func TestAskTwice(t *testing.T) {
	for _, last := range []bool{false, true} {
		for _, was := range []bool{false, true} {
			c := clock.At(0, was)
			c.Ask(last)
			c.Ask(!last)
			c.Ask(last)
			if c.Turn(); c.Fast() != last {
				t.Errorf("asked for %v at last: %v", last, c.Fast())
			}
		}
	}
}

// P2.3: where nothing was asked a boundary changes nothing; nor does one behind the next.
func TestTurnUnasked(t *testing.T) {
	for _, fast := range []bool{false, true} {
		c := clock.At(9, fast)
		if c.Turn(); !alike(c, 9, fast, 0) {
			t.Error("a boundary at which nothing was asked")
		}
		c.Ask(!fast)
		c.Turn()
		if c.Turn(); !alike(c, 9, !fast, 0) {
			t.Error("a second boundary")
		}
	}
}

// P2.4, P5: a clone is alike, with what was asked for, and apart.
func TestClone(t *testing.T) {
	c := clock.At(7, true)
	c.Cycle(true)
	c.Ask(false)
	d := c.Clone()
	if d == c || !alike(d, 13, true, 2) {
		t.Fatal("a clone isn't alike, or isn't another one")
	}
	if d.Turn(); d.Fast() || !c.Fast() {
		t.Error("a clone's boundary")
	}
	if d.Cycle(false); !alike(d, 25, false, 3) || !alike(c, 13, true, 2) {
		t.Error("a clone's cycle")
	}
	c.Ask(true)
	c.Turn()
	if c.Cycle(false); !alike(c, 16, true, 3) || !alike(d, 25, false, 3) {
		t.Error("a cycle, once a clone was made")
	}
	if d.Turn(); d.Fast() {
		t.Error("what the first one was asked for reaches the clone")
	}
}

// P2.4, P1: of nil everything is 0, false, nil, and nothing happens.
func TestNil(t *testing.T) {
	var c *clock.Clock
	c.Ask(true)
	c.Turn()
	if c.Cycle(true) != 0 || c.Cycle(false) != 0 || !alike(c, 0, false, 0) || c.Clone() != nil {
		t.Error("a nil clock")
	}
}

// P1: a clock that no call made goes as a new one does.
func TestUnmade(t *testing.T) {
	c, d := &clock.Clock{}, clock.New()
	for i, extra := range row(6) {
		if i == 3 {
			c.Ask(true)
			d.Ask(true)
		}
		if c.Cycle(extra) != d.Cycle(extra) || !alike(c.Clone(), d.Now(), d.Fast(), d.Cycles()) {
			t.Error("a clock that no call made")
		}
		c.Turn()
		d.Turn()
	}
}

// P2.5: as many stamps as there are accesses, and when all are over.
func TestStamps(t *testing.T) {
	for _, from := range stamps {
		for _, fast := range []bool{false, true} {
			for n := range 10 {
				extra := row(n)
				c := clock.At(from, fast)
				want := []int64{}
				for _, x := range extra {
					want = append(want, c.Cycle(x))
				}
				got, end := clock.Stamps(from, fast, extra)
				if !slices.Equal(got, want) || end != c.Now() {
					t.Errorf("Stamps(%d, %v, %v): %v, %d", from, fast, extra, got, end)
				}
			}
		}
	}
	got, end := clock.Stamps(100, true, []bool{false, true, true, false})
	if !slices.Equal(got, []int64{100, 103, 109, 115}) || end != 118 {
		t.Errorf("four fast accesses: %v, %d", got, end)
	}
}

// P2.5: of no accesses there are no stamps; all is over at once, at the stamp as it is held.
func TestStampsOfNone(t *testing.T) {
	for _, extra := range [][]bool{nil, {}} {
		for _, from := range stamps {
			if l, end := clock.Stamps(from, false, extra); len(l) != 0 || end != held(from) {
				t.Errorf("Stamps(%d, false, %v): %v, %d", from, extra, l, end)
			}
		}
	}
}

// P3: the list that is given stays, spare room too; what is answered is written to by nobody.
func TestStampsKeeps(t *testing.T) {
	room := []bool{true, false, true, true, false}
	first, _ := clock.Stamps(0, true, room[1:3])
	if !slices.Equal(room, []bool{true, false, true, true, false}) {
		t.Error("a list that was given is changed")
	}
	second, _ := clock.Stamps(50, false, room[1:3])
	second[0] = 999
	if !slices.Equal(first, []int64{0, 3}) {
		t.Error("a list that was answered is changed")
	}
	if third, _ := clock.Stamps(0, true, room[1:3]); !slices.Equal(third, first) {
		t.Error("something else is answered later")
	}
}

// P2.6: stamps rise by 3, 6, 12 or 24; n accesses from 0 on are over by 24 n.
func TestRising(t *testing.T) {
	by := map[int64]bool{3: true, 6: true, 12: true, 24: true}
	c := clock.New()
	for n, extra := range row(60) {
		begun := c.Cycle(extra)
		if !by[c.Now()-begun] {
			t.Errorf("a rise by %d", c.Now()-begun)
		}
		if c.Now() > 24*int64(n+1) {
			t.Errorf("%d accesses are over at %d", n+1, c.Now())
		}
		if n%5 == 4 {
			c.Ask(n%2 == 0)
			c.Turn()
		}
	}
	every := slices.Repeat([]bool{true}, 100)
	if _, end := clock.Stamps(0, false, every); end != 24*100 {
		t.Errorf("100 accesses with extra cycles are over at %d", end)
	}
}

// P4: behind 2^50 time goes on; it is held there just as a clock is asked for.
func TestLate(t *testing.T) {
	c := clock.At(math.MaxInt64, false)
	c.Cycle(true)
	if c.Cycle(false) != latest+24 || c.Now() != latest+36 {
		t.Errorf("a late clock: %d", c.Now())
	}
}

// The examples of the chapter.
func TestExamples(t *testing.T) {
	c := clock.New()
	if c.Cycle(false) != 0 || c.Now() != 12 {
		t.Error("the first cycle")
	}
	c.Ask(true)
	if c.Cycle(false) != 12 {
		t.Error("the second cycle")
	}
	c.Turn()
	if c.Cycle(false) != 24 || c.Now() != 27 {
		t.Error("the third cycle")
	}
}
