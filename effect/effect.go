// Package effect has what instructions do to registers and to bytes, apart from their accesses. Both isa and seq do them by it. A name is one of layer 23.
package effect

import (
	"gannet/adder"
	"gannet/api"
	"gannet/flags"
	"gannet/logic"
	"gannet/mmu"
	"gannet/octet"
)

// Family is what the names have in common that do the same with another bit each; of all other names the name.
func Family(name string) string { return name[:3] }

// bit is which bit a name tells that has one.
func bit(name string) int { return int(name[3] - '0') }

// letter is the one by which a name tells a register, a flag, or a port.
func letter(name string) byte { return name[2] }

// Register is the register of a letter; A, if there is none.
func Register(s *api.State, letter byte) *byte {
	switch letter {
	case 'X':
		return &s.X
	case 'Y':
		return &s.Y
	case 'S':
		return &s.S
	}
	return &s.A
}

// Kept is the register that a name stores, or pushes, or 0.
func Kept(name string, s api.State) byte {
	if name == "STZ" {
		return 0
	}
	return *Register(&s, letter(name))
}

// Port is the physical address to which a name tells a byte at once.
func Port(name string) uint32 {
	a, _ := mmu.Port(int(letter(name) - '0'))
	return a
}

// Take does what a name does with a value that it was given, or that it pulled.
func Take(s *api.State, name string, v byte) {
	switch name {
	case "LDA", "LDX", "LDY", "PLA", "PLX", "PLY":
		load(s, letter(name), v)
	case "CMP", "CPX", "CPY":
		s.P = adder.Compare(*Register(s, letter(name)), v, s.P)
	case "BIT":
		s.P = logic.Test(s.A, v, s.P)
	case "PLP":
		s.P = flags.Pulled(v)
	}
}

// load changes a register, and tells the flags of it.
func load(s *api.State, letter, v byte) {
	*Register(s, letter) = v
	s.P = flags.Result(s.P, v)
}

// Together is what comes of two bytes that a name puts together, the flags behind it, and whether it takes longer.
func Together(name string, a, v, p byte) (byte, byte, bool) {
	switch name {
	case "ADC":
		return adder.Add(a, v, p)
	case "SBC":
		return adder.Sub(a, v, p)
	case "AND":
		a, p = logic.And(a, v, p)
	case "ORA":
		a, p = logic.Or(a, v, p)
	case "EOR":
		a, p = logic.Eor(a, v, p)
	}
	return a, p, false
}

// Change is what comes of a byte that a name changes, and the flags behind it.
func Change(name string, v byte, s api.State) (byte, byte) {
	switch Family(name) {
	case "ASL":
		return logic.Asl(v, s.P)
	case "LSR":
		return logic.Lsr(v, s.P)
	case "ROL":
		return logic.Rol(v, s.P)
	case "ROR":
		return logic.Ror(v, s.P)
	case "INC":
		return logic.Inc(v, s.P)
	case "DEC":
		return logic.Dec(v, s.P)
	case "TSB":
		return logic.Tsb(s.A, v, s.P)
	case "TRB":
		return logic.Trb(s.A, v, s.P)
	case "RMB", "SMB":
		return octet.With(v, bit(name), Family(name) == "SMB"), s.P
	}
	return v, s.P
}
