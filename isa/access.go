package isa

import (
	"gannet/api"
	"gannet/enter"
	"gannet/mmu"
	"gannet/modes"
	"gannet/octet"
)

// read is an access that reads at a logical address.
func (c *Core) read(kind uint8, at uint16) byte {
	return enter.Access(c.bus, c.s, enter.Step{Kind: kind, Addr: at})
}

// write is an access that writes at a logical address.
func (c *Core) write(kind uint8, at uint16, v byte) {
	enter.Access(c.bus, c.s, enter.Step{Kind: kind, Addr: at, Write: true, Data: v})
}

// next is the byte at PC, which goes on.
func (c *Core) next(kind uint8) byte {
	v := c.read(kind, c.s.PC)
	c.s.PC++
	return v
}

// idle is so many accesses that do nothing.
func (c *Core) idle(n int) {
	for range n {
		c.read(api.Dummy, c.s.PC)
	}
}

// word is read byte by byte, the low one first.
func (c *Core) word(kind uint8, lo, hi uint16) uint16 {
	low := c.read(kind, lo)
	return octet.Word(low, c.read(kind, hi))
}

// push writes bytes to the stack, one behind the other.
func (c *Core) push(l ...byte) {
	for _, v := range l {
		c.write(api.Push, mmu.Stack(c.s.S), v)
		c.s.S--
	}
}

// pushWord pushes an address, its high byte first.
func (c *Core) pushWord(w uint16) { c.push(octet.Hi(w), octet.Lo(w)) }

// pull reads a byte of the stack.
func (c *Core) pull() byte {
	c.s.S++
	return c.read(api.Pull, mmu.Stack(c.s.S))
}

// pullWord pulls an address, its low byte first.
func (c *Core) pullWord() uint16 {
	low := c.pull()
	return octet.Word(low, c.pull())
}

// place finds where what is meant is.
func (c *Core) place(x instruction) uint16 {
	c.idle(1)
	var word uint16
	if lo, hi, ok := modes.Pointer(x.mode, x.behind, c.s.X); ok {
		word = c.word(api.Load, lo, hi)
		c.idle(1)
	}
	at, _ := modes.Address(x.mode, x.behind, c.s.X, c.s.Y, word)
	return at
}
