package seq

import (
	"gannet/api"
	"gannet/effect"
	"gannet/enter"
	"gannet/flags"
	"gannet/logic"
	"gannet/modes"
	"gannet/opcode"
)

// work is a name's own work, or an entry's.
func (q *Seq) work() {
	if q.entry != api.Nothing {
		q.s = enter.After(q.entry, q.last, q.word)
		return
	}
	name := q.op.Name
	switch effect.Family(name) {
	case "LDA", "LDX", "LDY", "CMP", "CPX", "CPY", "BIT", "PLA", "PLX", "PLY", "PLP":
		effect.Take(&q.s, name, q.v)
	case "TST":
		q.s.P = logic.Test(q.behind[0], q.v, q.s.P)
	case "ADC", "SBC", "AND", "ORA", "EOR":
		q.combine()
	case "ASL", "LSR", "ROL", "ROR", "INC", "DEC", "TSB", "TRB", "RMB", "SMB":
		q.change()
	case "TAM", "TMA":
		effect.Pages(&q.s, name, q.v)
	case "CSL", "CSH":
		q.bus.Ask(name == "CSH")
	case "BPL", "BMI", "BVC", "BVS", "BCC", "BCS", "BNE", "BEQ", "BRA", "BBR", "BBS", "BSR",
		"JMP", "JSR", "RTS", "RTI", "BRK":
		q.leave()
	default:
		effect.Arrange(&q.s, name)
	}
}

// combine puts A and a value together, or a byte of the zero page and the value.
func (q *Seq) combine() {
	to := &q.s.A
	if q.instead() {
		to = &q.x
	}
	*to, q.s.P, _ = effect.Together(q.op.Name, *to, q.v, q.s.P)
}

// change changes A, or a byte of memory.
func (q *Seq) change() {
	to := &q.v
	if q.op.Mode == opcode.Implied {
		to = &q.s.A
	}
	*to, q.s.P = effect.Change(q.op.Name, *to, q.s)
}

// leave goes on elsewhere.
func (q *Seq) leave() {
	switch q.op.Name {
	case "JMP", "JSR":
		q.s.PC = q.place()
	case "RTS":
		q.s.PC = q.word + 1
	case "BRK":
		q.s.P = flags.Entered(q.s.P)
		q.s.PC = q.word
	case "RTI":
		q.s.PC = q.word
	default:
		d, _ := modes.Distance(q.op.Mode, q.behind)
		q.s.PC = modes.Target(q.s.PC, d)
	}
}
