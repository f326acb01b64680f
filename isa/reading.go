package isa

import (
	"gannet/adder"
	"gannet/api"
	"gannet/flags"
	"gannet/logic"
	"gannet/mmu"
	"gannet/opcode"
)

// take does what takes a value.
func (c *Core) take(x instruction) {
	v := c.value(x)
	switch x.name {
	case "LDA", "LDX", "LDY":
		c.load(x.letter(), v)
	case "CMP", "CPX", "CPY":
		c.s.P = adder.Compare(*c.register(x.letter()), v, c.s.P)
	case "BIT":
		c.s.P = logic.Test(c.s.A, v, c.s.P)
	default:
		c.combine(x, v)
	}
}

// value is the byte behind, or that of the place that is meant.
func (c *Core) value(x instruction) byte {
	if x.mode == opcode.Imm {
		return x.behind[0]
	}
	return c.read(api.Load, c.place(x))
}

// load changes a register, and tells the flags of it.
func (c *Core) load(letter, v byte) {
	*c.register(letter) = v
	c.s.P = flags.Result(c.s.P, v)
}

// combine puts A and a value together, or, if T was set, a byte of the zero page and the value.
func (c *Core) combine(x instruction, v byte) {
	var longer bool
	if x.t && x.name != "SBC" {
		at := mmu.Zero(c.s.X)
		m := c.read(api.Load, at)
		c.idle(1)
		m, c.s.P, longer = combined(x.name, m, v, c.s.P)
		c.write(api.Store, at, m)
	} else {
		c.s.A, c.s.P, longer = combined(x.name, c.s.A, v, c.s.P)
	}
	if longer {
		c.idle(1)
	}
}

// combined is what comes of two bytes, the flags behind it, and whether it takes longer.
func combined(name string, a, v, p byte) (byte, byte, bool) {
	switch name {
	case "ADC":
		return adder.Add(a, v, p)
	case "SBC":
		return adder.Sub(a, v, p)
	case "AND":
		a, p = logic.And(a, v, p)
	case "ORA":
		a, p = logic.Or(a, v, p)
	case "EOR":
		a, p = logic.Eor(a, v, p)
	}
	return a, p, false
}
