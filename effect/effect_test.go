package effect_test

import (
	"testing"

	"gannet/api"
	"gannet/effect"
	"gannet/opcode"
)

// Names with a bit each are one family; all others are their own.
func TestFamily(t *testing.T) {
	for name, want := range map[string]string{"RMB0": "RMB", "SMB7": "SMB", "BBR3": "BBR", "BBS4": "BBS", "LDA": "LDA", "ST0": "ST0"} {
		if got := effect.Family(name); got != want {
			t.Errorf("%s: %s", name, got)
		}
	}
}

// What is stored or pushed is the register that the name tells, or 0.
func TestKept(t *testing.T) {
	s := api.State{A: 1, X: 2, Y: 3, S: 4}
	for name, want := range map[string]byte{"STA": 1, "STX": 2, "STY": 3, "STZ": 0, "PHA": 1, "PHX": 2, "PHY": 3} {
		if got := effect.Kept(name, s); got != want {
			t.Errorf("%s: %d", name, got)
		}
	}
	for name, want := range map[string]uint32{"ST0": 0x1FE000, "ST1": 0x1FE002, "ST2": 0x1FE003} {
		if got := effect.Port(name); got != want {
			t.Errorf("%s: %#x", name, got)
		}
	}
}

// What is taken changes a register, or flags alone.
func TestTake(t *testing.T) {
	s := api.State{A: 0x40, X: 5, Y: 6, P: api.FlagC}
	for name, want := range map[string]api.State{
		"LDA": {A: 0x80, X: 5, Y: 6, P: api.FlagC | api.FlagN},
		"PLX": {A: 0x40, X: 0x80, Y: 6, P: api.FlagC | api.FlagN},
		"LDY": {A: 0x40, X: 5, Y: 0x80, P: api.FlagC | api.FlagN},
		"CPX": {A: 0x40, X: 5, Y: 6, P: api.FlagN},
		"BIT": {A: 0x40, X: 5, Y: 6, P: api.FlagC | api.FlagN | api.FlagZ},
		"PLP": {A: 0x40, X: 5, Y: 6, P: api.FlagN},
	} {
		got := s
		if effect.Take(&got, name, 0x80); got != want {
			t.Errorf("%s: %v, not %v", name, got, want)
		}
	}
}

// What comes of bytes, with flags, of a name each.
func TestBytes(t *testing.T) {
	s := api.State{A: 0x0F, P: api.FlagC}
	for name, want := range map[string][2]byte{
		"ASL": {0x02, api.FlagC}, "ROL": {0x03, api.FlagC}, "LSR": {0x40, api.FlagC}, "ROR": {0xC0, api.FlagC | api.FlagN},
		"INC": {0x82, api.FlagC | api.FlagN}, "DEC": {0x80, api.FlagC | api.FlagN},
		"TSB": {0x8F, api.FlagC | api.FlagN}, "TRB": {0x80, api.FlagC | api.FlagN},
		"RMB0": {0x80, api.FlagC}, "SMB3": {0x89, api.FlagC},
	} {
		if v, p := effect.Change(name, 0x81, s); v != want[0] || p != want[1] {
			t.Errorf("%s: %#x, %#x", name, v, p)
		}
	}
	for name, want := range map[string][2]byte{"AND": {0x01, api.FlagC}, "ORA": {0x83, api.FlagC | api.FlagN}, "EOR": {0x82, api.FlagC | api.FlagN}, "ADC": {0x85, api.FlagN}, "SBC": {0x7E, api.FlagC | api.FlagV}} {
		if v, p, longer := effect.Together(name, 0x81, 0x03, api.FlagC); v != want[0] || p != want[1] || longer {
			t.Errorf("%s: %#x, %#x, %v", name, v, p, longer)
		}
		if _, _, longer := effect.Together(name, 0x81, 0x03, api.FlagD); longer != (name == "ADC" || name == "SBC") {
			t.Errorf("%s, decimal: %v", name, longer)
		}
	}
}

// Registers that are arranged among themselves, and pages.
func TestRegisters(t *testing.T) {
	s := api.State{A: 1, X: 0xFF, Y: 0, S: 0x80}
	for name, want := range map[string]api.State{
		"TSX": {A: 1, X: 0x80, S: 0x80, P: api.FlagN},
		"TXS": {A: 1, X: 0xFF, S: 0xFF},
		"INX": {A: 1, S: 0x80, P: api.FlagZ},
		"DEY": {A: 1, X: 0xFF, Y: 0xFF, S: 0x80, P: api.FlagN},
		"CLX": {A: 1, S: 0x80},
		"SED": {A: 1, X: 0xFF, S: 0x80, P: api.FlagD},
		"SXY": {A: 1, Y: 0xFF, S: 0x80},
		"NOP": s,
	} {
		got := s
		if effect.Arrange(&got, name); got != want {
			t.Errorf("%s: %v, not %v", name, got, want)
		}
	}
	effect.Pages(&s, "TAM", 0x82)
	if s.Mpr != [8]byte{1: 1, 7: 1} || s.Last != 1 || s.A != 1 {
		t.Errorf("TAM: %v", s)
	}
	if effect.Pages(&s, "TMA", 0x01); s.A != 0 || s.Last != 0 {
		t.Errorf("TMA: %v", s)
	}
}

// Each branch by a flag is taken with it set, or clear; each by a bit likewise.
func TestGoes(t *testing.T) {
	for name, p := range map[string]byte{"BMI": api.FlagN, "BVS": api.FlagV, "BCS": api.FlagC, "BEQ": api.FlagZ} {
		other := map[string]string{"BMI": "BPL", "BVS": "BVC", "BCS": "BCC", "BEQ": "BNE"}[name]
		if !effect.Goes(name, p, 0) || effect.Goes(name, ^p, 0) || effect.Goes(other, p, 0) || !effect.Goes(other, ^p, 0) {
			t.Errorf("%s, %s", name, other)
		}
	}
	for n, bit := range "01234567" {
		v := byte(1) << n
		r, s := "BBR"+string(bit), "BBS"+string(bit)
		if !effect.Goes(s, 0, v) || effect.Goes(s, 0, ^v) || effect.Goes(r, 0, v) || !effect.Goes(r, 0, ^v) {
			t.Errorf("%s, %s", r, s)
		}
	}
}

// No name of all makes a call panic, whatever it is about.
func TestNames(t *testing.T) {
	for _, name := range opcode.Names() {
		s := api.State{A: 1, X: 2, Y: 3}
		effect.Take(&s, name, 1)
		effect.Arrange(&s, name)
		effect.Pages(&s, name, 1)
		effect.Kept(name, s)
		effect.Port(name)
		effect.Change(name, 1, s)
		effect.Together(name, 1, 2, 3)
		effect.Goes(name, 0, 0)
	}
}
