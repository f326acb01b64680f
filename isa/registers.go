package isa

import (
	"gannet/api"
	"gannet/flags"
	"gannet/mmu"
)

// arrange does what needs registers alone, or what is behind them: pages, the speed, a device's port. Of all else it does nothing, in one access.
func (c *Core) arrange(x instruction) {
	c.idle(1)
	switch x.name {
	case "TAX", "TAY", "TSX", "TXA", "TYA":
		c.load(x.letter(), *c.register(x.name[1]))
	case "TXS":
		c.s.S = c.s.X
	case "INX", "INY":
		c.load(x.letter(), *c.register(x.letter())+1)
	case "DEX", "DEY":
		c.load(x.letter(), *c.register(x.letter())-1)
	case "CLA", "CLX", "CLY":
		*c.register(x.letter()) = 0
	case "CLC", "CLD", "CLI", "CLV":
		c.s.P = flags.Set(c.s.P, flag(x.letter()), false)
	case "SEC", "SED", "SEI", "SET":
		c.s.P = flags.Set(c.s.P, flag(x.letter()), true)
	case "SAX", "SAY", "SXY":
		c.exchange(c.register(x.name[1]), c.register(x.letter()))
	case "CSL", "CSH":
		c.idle(1)
		c.bus.Ask(x.name == "CSH")
	case "TAM", "TMA":
		c.page(x)
	case "ST0", "ST1", "ST2":
		a, _ := mmu.Port(int(x.letter() - '0'))
		c.bus.Write(a, x.behind[0], api.Store)
	}
}

// flag is the flag of a letter.
func flag(letter byte) byte {
	switch letter {
	case 'C':
		return api.FlagC
	case 'D':
		return api.FlagD
	case 'I':
		return api.FlagI
	case 'V':
		return api.FlagV
	case 'T':
		return api.FlagT
	}
	return 0
}

// exchange changes two registers for one another.
func (c *Core) exchange(a, b *byte) {
	c.idle(1)
	*a, *b = *b, *a
}

// page moves A to pages, or a page to A.
func (c *Core) page(x instruction) {
	c.idle(1)
	pages, mask := mmu.Of(c.s.Mpr, c.s.Last), x.behind[0]
	if x.name == "TAM" {
		c.idle(1)
		pages.Set(mask, c.s.A)
	} else {
		c.s.A = pages.Get(mask)
	}
	c.s.Mpr, c.s.Last = pages.Banks(), pages.Last()
}
