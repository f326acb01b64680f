package isa

import (
	"gannet/api"
	"gannet/logic"
	"gannet/octet"
	"gannet/opcode"
)

// store writes a register, or 0.
func (c *Core) store(x instruction) {
	at := c.place(x)
	v := byte(0)
	if x.name != "STZ" {
		v = *c.register(x.letter())
	}
	c.write(api.Store, at, v)
}

// change changes A, or a byte of memory.
func (c *Core) change(x instruction) {
	if x.mode == opcode.Implied {
		c.idle(1)
		c.s.A, c.s.P = changed(x.name, c.s.A, c.s)
		return
	}
	at := c.place(x)
	v := c.read(api.Load, at)
	c.idle(1)
	v, c.s.P = changed(x.name, v, c.s)
	c.write(api.Store, at, v)
}

// changed is what comes of a byte, and the flags behind it.
func changed(name string, v byte, s api.State) (byte, byte) {
	switch name {
	case "ASL":
		return logic.Asl(v, s.P)
	case "LSR":
		return logic.Lsr(v, s.P)
	case "ROL":
		return logic.Rol(v, s.P)
	case "ROR":
		return logic.Ror(v, s.P)
	case "INC":
		return logic.Inc(v, s.P)
	case "DEC":
		return logic.Dec(v, s.P)
	case "TSB":
		return logic.Tsb(s.A, v, s.P)
	case "TRB":
		return logic.Trb(s.A, v, s.P)
	}
	return v, s.P
}

// changeBit sets, or clears, a bit of memory.
func (c *Core) changeBit(x instruction) {
	at := c.place(x)
	v := c.read(api.Load, at)
	c.idle(2)
	c.write(api.Store, at, octet.With(v, x.bit(), x.family() == "SMB"))
}

// test tells the flags of a byte of memory, by the byte behind.
func (c *Core) test(x instruction) {
	c.idle(1)
	v := c.read(api.Load, c.place(x))
	c.idle(1)
	c.s.P = logic.Test(x.behind[0], v, c.s.P)
}
