package isa

import (
	"gannet/api"
	"gannet/moves"
	"gannet/octet"
	"gannet/opcode"
)

// block moves a block, between pushes and pulls of the registers.
func (c *Core) block(name string) {
	c.push(c.s.Y, c.s.A, c.s.X)
	l := c.operands(opcode.Block)
	c.idle(1)
	kind, _ := moves.Kind(name)
	for _, way := range moves.All(kind, octet.Word(l[0], l[1]), octet.Word(l[2], l[3]), octet.Word(l[4], l[5])) {
		if c.bus.Left() == 0 {
			goto over
		}
		c.move(way)
	}
over:
	c.idle(1)
	c.s.X = c.pull()
	c.s.A = c.pull()
	c.s.Y = c.pull()
	c.idle(2)
}

// move moves a byte.
func (c *Core) move(way moves.Move) {
	c.idle(1)
	v := c.read(api.Load, way.From)
	c.idle(2)
	c.write(api.Store, way.To, v)
	c.idle(1)
}
