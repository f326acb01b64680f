package micro

import (
	"strings"

	"gannet/api"
	"gannet/modes"
	"gannet/opcode"
)

// byT is what is done to a byte of the zero page, instead of A, if T was set.
const byT = "LxT. D.T! SxT."

// Of is the program of a byte.
func Of(b byte) []Op {
	op := opcode.Of(b)
	operands := strings.Repeat("O... ", modes.Behind(op.Mode))
	switch op.Mode {
	case opcode.Block:
		return program("F... Py.. Pa.. Px..", operands, "D...",
			"D.N. LmN. D.N. D.N. SmN. D.N.",
			"D... Ux.. Ua.. Uy.. D... D..!")
	case opcode.Imm:
		return program("F...", immediate(op.Name), together(op.Name))
	}
	return program("F...", operands, behind(op), together(op.Name))
}

// behind is what is done behind the operands, of all modes but Imm and Block.
func behind(op opcode.Op) string {
	ahead := ""
	switch op.Mode {
	case opcode.Implied:
		return implied(op.Name)
	case opcode.Rel, opcode.ZpRel:
		return branch(op.Name)
	case opcode.ImmZp, opcode.ImmZpX, opcode.ImmAbs, opcode.ImmAbsX:
		return "D... D... Lv.. D..!"
	case opcode.Ind, opcode.IndX, opcode.IndY, opcode.AbsInd, opcode.AbsIndX:
		ahead = "D... Ll.. Lh.. "
		fallthrough
	default:
		return ahead + found(op.Name)
	}
}

// found is what is done from the last access on by which a place is found.
func found(name string) string {
	ahead := "D... Lv.. "
	switch name[:3] {
	case "JMP":
		return "D..!"
	case "JSR":
		return "D... PH.. PL.. D..!"
	case "STA", "STX", "STY", "STZ":
		return "D... Ss.."
	case "RMB", "SMB":
		ahead += "D... "
		fallthrough
	case "ASL", "LSR", "ROL", "ROR", "INC", "DEC", "TSB", "TRB":
		return ahead + "D..! Sr.."
	}
	return "D... Lv.!"
}

// implied is what is done of a name that has nothing behind.
func implied(name string) string {
	ahead := ""
	switch name {
	case "PHA", "PHX", "PHY":
		return "D... Ps.."
	case "PHP":
		return "D... Pf.."
	case "PLA", "PLX", "PLY", "PLP":
		return "D... D... Uv.!"
	case "RTS":
		return "D... D... Ul.. Uh.. D... D..!"
	case "RTI":
		return "D... D... Uf.. Ul.. Uh.. D..!"
	case "SAX", "SAY", "SXY", "CSL", "CSH":
		ahead = "D... "
		fallthrough
	default:
		return ahead + "D..!"
	}
}

// immediate is what is done of a name that has a byte behind, from this byte on.
func immediate(name string) string {
	ahead := "O... "
	switch name {
	case "BRK":
		return "O... Ph.. Pl.. Pf.. Vl.. Vh.. D..!"
	case "ST0", "ST1", "ST2":
		return "O... D... Sp.."
	case "TAM":
		ahead += "D... "
		fallthrough
	case "TMA":
		return ahead + "D... D..!"
	}
	return "O..!"
}

// branch is what is done of a name that has a distance behind.
func branch(name string) string {
	ahead := ""
	switch name[:3] {
	case "BRA":
		return "D... D..!"
	case "BSR":
		return "D... PH.. PL.. D... D... D..!"
	case "BBR", "BBS":
		ahead = "D... Lv.. D... "
		fallthrough
	default:
		return ahead + "D.B. D.B!"
	}
}

// together is what is done more where two bytes are put together.
func together(name string) string {
	ahead := ""
	switch name {
	case "AND", "ORA", "EOR":
		return byT
	case "ADC":
		ahead = byT + blank
		fallthrough
	case "SBC":
		return ahead + "D.D."
	}
	return ""
}

// Entry is the program of an entry.
func Entry(kind uint8) []Op {
	pushes := "Ph.. Pl.. Pq.."
	switch kind {
	case api.ByReset:
		pushes = "Ds.. Ds.. Ds.."
		fallthrough
	case api.ByNmi, api.ByTimer, api.ByIrq1, api.ByIrq2:
		return program("D... D...", pushes, "Vl.. Vh.. D..!")
	}
	return nil
}

// program is the ops of parts that are written as texts, one part behind the other.
func program(parts ...string) []Op {
	l, _ := Read(strings.Join(strings.Fields(strings.Join(parts, blank)), blank))
	return l
}
