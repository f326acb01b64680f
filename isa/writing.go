package isa

import (
	"gannet/api"
	"gannet/effect"
	"gannet/logic"
	"gannet/opcode"
)

// store writes a register, or 0.
func (c *Core) store(x instruction) {
	c.write(api.Store, c.place(x), effect.Kept(x.name, c.s))
}

// change changes A, or a byte of memory; of the latter one bit takes longer.
func (c *Core) change(x instruction) {
	if x.mode == opcode.Implied {
		c.idle(1)
		c.s.A, c.s.P = effect.Change(x.name, c.s.A, c.s)
		return
	}
	at := c.place(x)
	v := c.read(api.Load, at)
	c.idle(1)
	switch effect.Family(x.name) {
	case "RMB", "SMB":
		c.idle(1)
	}
	v, c.s.P = effect.Change(x.name, v, c.s)
	c.write(api.Store, at, v)
}

// test tells the flags of a byte of memory, by the byte behind.
func (c *Core) test(x instruction) {
	c.idle(1)
	v := c.read(api.Load, c.place(x))
	c.idle(1)
	c.s.P = logic.Test(x.behind[0], v, c.s.P)
}
