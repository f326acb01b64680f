package effect

import (
	"gannet/api"
	"gannet/flags"
	"gannet/mmu"
	"gannet/octet"
)

// Arrange does what a name does that needs registers alone.
func Arrange(s *api.State, name string) {
	at := letter(name)
	switch name {
	case "TAX", "TAY", "TSX", "TXA", "TYA":
		load(s, at, *Register(s, name[1]))
	case "TXS":
		s.S = s.X
	case "INX", "INY":
		load(s, at, *Register(s, at)+1)
	case "DEX", "DEY":
		load(s, at, *Register(s, at)-1)
	case "CLA", "CLX", "CLY":
		*Register(s, at) = 0
	case "CLC", "CLD", "CLI", "CLV":
		s.P = flags.Set(s.P, flag(at), false)
	case "SEC", "SED", "SEI", "SET":
		s.P = flags.Set(s.P, flag(at), true)
	case "SAX", "SAY", "SXY":
		a, b := Register(s, name[1]), Register(s, at)
		*a, *b = *b, *a
	}
}

// flag is the flag of a letter.
func flag(letter byte) byte {
	switch letter {
	case 'C':
		return api.FlagC
	case 'D':
		return api.FlagD
	case 'I':
		return api.FlagI
	case 'V':
		return api.FlagV
	case 'T':
		return api.FlagT
	}
	return 0
}

// Pages moves A to the pages of a mask, or one of them to A.
func Pages(s *api.State, name string, mask byte) {
	pages := mmu.Of(s.Mpr, s.Last)
	switch name {
	case "TAM":
		pages.Set(mask, s.A)
	case "TMA":
		s.A = pages.Get(mask)
	}
	s.Mpr, s.Last = pages.Banks(), pages.Last()
}

// Goes tells whether a branch by a flag, or by a bit of a value, is taken.
func Goes(name string, p, v byte) bool {
	switch Family(name) {
	case "BPL":
		return flags.Goes(p, api.FlagN, false)
	case "BMI":
		return flags.Goes(p, api.FlagN, true)
	case "BVC":
		return flags.Goes(p, api.FlagV, false)
	case "BVS":
		return flags.Goes(p, api.FlagV, true)
	case "BCC":
		return flags.Goes(p, api.FlagC, false)
	case "BCS":
		return flags.Goes(p, api.FlagC, true)
	case "BNE":
		return flags.Goes(p, api.FlagZ, false)
	case "BEQ":
		return flags.Goes(p, api.FlagZ, true)
	case "BBR", "BBS":
		return octet.Bit(v, bit(name)) == (Family(name) == "BBS")
	}
	return false
}
