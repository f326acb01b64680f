package isa

import (
	"gannet/api"
	"gannet/effect"
	"gannet/mmu"
	"gannet/opcode"
)

// value is the byte behind, or that of the place that is meant.
func (c *Core) value(x instruction) byte {
	if x.mode == opcode.Imm {
		return x.behind[0]
	}
	return c.read(api.Load, c.place(x))
}

// combine puts A and a value together, or, if T was set, a byte of the zero page and the value.
func (c *Core) combine(x instruction) {
	v := c.value(x)
	var longer bool
	if x.t && x.name != "SBC" {
		at := mmu.Zero(c.s.X)
		m := c.read(api.Load, at)
		c.idle(1)
		m, c.s.P, longer = effect.Together(x.name, m, v, c.s.P)
		c.write(api.Store, at, m)
	} else {
		c.s.A, c.s.P, longer = effect.Together(x.name, c.s.A, v, c.s.P)
	}
	if longer {
		c.idle(1)
	}
}
