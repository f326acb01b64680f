// Package clock tells when accesses begin. See ../../shared/doc/02-clock.md.
package clock

import "gannet/api"

// latest is the greatest stamp at which a clock may be asked for.
const latest = 1 << 50

// wish is a speed that is asked for. The zero one is none, so that a clock that no call made has none.
type wish struct{ asked, fast bool }

// Clock is when the next access begins, and how long cycles are. New and At alone make one.
type Clock struct {
	now, cycles int64
	fast        bool
	next        wish
}

// New is a clock at 0, slow.
func New() *Clock { return At(0, false) }

// At is a clock at a stamp, of a speed.
func At(now int64, fast bool) *Clock {
	return &Clock{now: min(max(now, 0), latest), fast: fast}
}

// Length is how long a cycle, and perhaps an extra one, is.
func Length(fast, extra bool) int64 {
	lengths := [2][2]int64{{api.Slow, 2 * api.Slow}, {api.Fast, 2 * api.Fast}}
	return lengths[one(fast)][one(extra)]
}

// one is 1, if something is so, else 0.
func one(so bool) int {
	if so {
		return 1
	}
	return 0
}

// Now is when the next access begins.
func (c *Clock) Now() int64 {
	if c == nil {
		return 0
	}
	return c.now
}

// Fast tells whether cycles are short.
func (c *Clock) Fast() bool { return c != nil && c.fast }

// Cycle is an access: when it begins; time goes on.
func (c *Clock) Cycle(extra bool) int64 {
	if c == nil {
		return 0
	}
	begun := c.now
	c.now += Length(c.fast, extra)
	c.cycles += 1 + int64(one(extra))
	return begun
}

// Ask asks for a speed, from the next boundary on.
func (c *Clock) Ask(fast bool) {
	if c != nil {
		c.next = wish{asked: true, fast: fast}
	}
}

// Turn is a boundary.
func (c *Clock) Turn() {
	if c == nil || c.next == (wish{}) {
		return
	}
	c.fast = c.next.fast
	c.next = wish{}
}

// Cycles is how many cycles went by.
func (c *Clock) Cycles() int64 {
	if c == nil {
		return 0
	}
	return c.cycles
}

// Clone is another one, alike.
func (c *Clock) Clone() *Clock {
	if c == nil {
		return nil
	}
	other := *c
	return &other
}

// Stamps is when accesses begin, one behind the other, and when all are over.
func Stamps(from int64, fast bool, extra []bool) ([]int64, int64) {
	c := At(from, fast)
	out := make([]int64, len(extra))
	for i, more := range extra {
		out[i] = c.Cycle(more)
	}
	return out, c.Now()
}
