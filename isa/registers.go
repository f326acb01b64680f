package isa

import (
	"gannet/api"
	"gannet/effect"
)

// arrange does what needs registers alone, or what is behind them: pages, the speed, a device's port. Of all else it does nothing, in one access.
func (c *Core) arrange(x instruction) {
	c.idle(1)
	switch x.name {
	case "SAX", "SAY", "SXY":
		c.idle(1)
		effect.Arrange(&c.s, x.name)
	case "CSL", "CSH":
		c.idle(1)
		c.bus.Ask(x.name == "CSH")
	case "TAM":
		c.idle(2)
		effect.Pages(&c.s, x.name, x.behind[0])
	case "TMA":
		c.idle(1)
		effect.Pages(&c.s, x.name, x.behind[0])
	case "ST0", "ST1", "ST2":
		c.bus.Write(effect.Port(x.name), x.behind[0], api.Store)
	default:
		effect.Arrange(&c.s, x.name)
	}
}
