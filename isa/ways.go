package isa

import (
	"gannet/api"
	"gannet/effect"
	"gannet/flags"
	"gannet/irq"
	"gannet/modes"
)

// leave does what may go on elsewhere.
func (c *Core) leave(x instruction) {
	switch effect.Family(x.name) {
	case "BRA":
		c.branch(x)
	case "BBR", "BBS":
		c.branchByBit(x)
	case "BSR", "JSR":
		c.call(x)
	case "JMP":
		c.s.PC = c.place(x)
	case "RTS":
		c.back()
	case "RTI":
		c.backFromEntry()
	case "BRK":
		c.stop()
	default:
		if effect.Goes(x.name, c.s.P, 0) {
			c.branch(x)
		}
	}
}

// branch goes as far as the distance behind tells.
func (c *Core) branch(x instruction) {
	c.idle(2)
	c.s.PC = c.target(x)
}

// target is where a distance leads.
func (c *Core) target(x instruction) uint16 {
	d, _ := modes.Distance(x.mode, x.behind)
	return modes.Target(c.s.PC, d)
}

// branchByBit goes by a bit of memory.
func (c *Core) branchByBit(x instruction) {
	v := c.read(api.Load, c.place(x))
	c.idle(1)
	if effect.Goes(x.name, c.s.P, v) {
		c.branch(x)
	}
}

// call goes elsewhere, and keeps where it was: the last byte of the instruction.
func (c *Core) call(x instruction) {
	c.idle(1)
	c.pushWord(c.s.PC - 1)
	if x.name == "BSR" {
		c.idle(1)
		c.branch(x)
	} else {
		c.s.PC = c.place(x)
	}
}

// back goes back behind a call.
func (c *Core) back() {
	c.idle(2)
	to := c.pullWord()
	c.idle(2)
	c.s.PC = to + 1
}

// backFromEntry goes back to where something was entered.
func (c *Core) backFromEntry() {
	c.idle(2)
	c.s.P = flags.Pulled(c.pull())
	to := c.pullWord()
	c.idle(1)
	c.s.PC = to
}

// stop enters what irq2 enters, without being asked from outside.
func (c *Core) stop() {
	c.pushWord(c.s.PC)
	c.push(flags.Pushed(c.s.P, true))
	at, _ := irq.Goes(api.ByIrq2)
	to := c.word(api.Vector, at, at+1)
	c.idle(1)
	c.s.P = flags.Entered(c.s.P)
	c.s.PC = to
}

// keep pushes a register, or pulls it.
func (c *Core) keep(x instruction) {
	c.idle(1)
	switch x.name {
	case "PHA", "PHX", "PHY":
		c.push(effect.Kept(x.name, c.s))
	case "PHP":
		c.push(flags.Pushed(c.s.P, true))
	default:
		c.idle(1)
		effect.Take(&c.s, x.name, c.pull())
	}
}
