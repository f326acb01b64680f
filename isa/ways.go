package isa

import (
	"gannet/api"
	"gannet/flags"
	"gannet/irq"
	"gannet/modes"
	"gannet/octet"
)

// leave does what may go on elsewhere.
func (c *Core) leave(x instruction) {
	switch x.family() {
	case "BRA":
		c.branch(x)
	case "BBR", "BBS":
		c.branchByBit(x)
	case "BSR", "JSR":
		c.call(x)
	case "JMP":
		c.s.PC = c.place(x)
	case "RTS":
		c.back()
	case "RTI":
		c.backFromEntry()
	case "BRK":
		c.stop()
	default:
		if flag, on := condition(x.name); flags.Goes(c.s.P, flag, on) {
			c.branch(x)
		}
	}
}

// condition is the flag by which a branch goes, and what it must be.
func condition(name string) (byte, bool) {
	switch name {
	case "BPL":
		return api.FlagN, false
	case "BMI":
		return api.FlagN, true
	case "BVC":
		return api.FlagV, false
	case "BVS":
		return api.FlagV, true
	case "BCC":
		return api.FlagC, false
	case "BCS":
		return api.FlagC, true
	case "BNE":
		return api.FlagZ, false
	}
	return api.FlagZ, true
}

// branch goes as far as the distance behind tells.
func (c *Core) branch(x instruction) {
	c.idle(2)
	c.s.PC = c.target(x)
}

// target is where a distance leads.
func (c *Core) target(x instruction) uint16 {
	d, _ := modes.Distance(x.mode, x.behind)
	return modes.Target(c.s.PC, d)
}

// branchByBit goes by a bit of memory.
func (c *Core) branchByBit(x instruction) {
	v := c.read(api.Load, c.place(x))
	c.idle(1)
	if octet.Bit(v, x.bit()) == (x.family() == "BBS") {
		c.branch(x)
	}
}

// call goes elsewhere, and keeps where it was: the last byte of the instruction.
func (c *Core) call(x instruction) {
	c.idle(1)
	c.pushWord(c.s.PC - 1)
	if x.name == "BSR" {
		c.idle(1)
		c.branch(x)
	} else {
		c.s.PC = c.place(x)
	}
}

// back goes back behind a call.
func (c *Core) back() {
	c.idle(2)
	to := c.pullWord()
	c.idle(2)
	c.s.PC = to + 1
}

// backFromEntry goes back to where something was entered.
func (c *Core) backFromEntry() {
	c.idle(2)
	c.s.P = flags.Pulled(c.pull())
	to := c.pullWord()
	c.idle(1)
	c.s.PC = to
}

// stop enters what irq2 enters, without being asked from outside.
func (c *Core) stop() {
	c.pushWord(c.s.PC)
	c.push(flags.Pushed(c.s.P, true))
	at, _ := irq.Goes(api.ByIrq2)
	to := c.word(api.Vector, at, at+1)
	c.idle(1)
	c.s.P = flags.Entered(c.s.P)
	c.s.PC = to
}

// keep pushes a register, or pulls it.
func (c *Core) keep(x instruction) {
	c.idle(1)
	switch x.name {
	case "PHA", "PHX", "PHY":
		c.push(*c.register(x.letter()))
	case "PHP":
		c.push(flags.Pushed(c.s.P, true))
	case "PLP":
		c.idle(1)
		c.s.P = flags.Pulled(c.pull())
	default:
		c.idle(1)
		c.load(x.letter(), c.pull())
	}
}
