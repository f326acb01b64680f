package opcode_test

import (
	"reflect"
	"sort"
	"strings"
	"testing"

	"gannet/opcode"
)

// table is the chapter's: name and mode of all bytes, sixteen a row.
const table = `
BRK## ORAix SXY.. ST0## TSBzp ORAzp ASLzp RMB0zp PHP.. ORA## ASL.. ---- TSBab ORAab ASLab BBR0zr
BPLre ORAiy ORAin ST1## TRBzp ORAzx ASLzx RMB1zp CLC.. ORAay INC.. ---- TRBab ORAax ASLax BBR1zr
JSRab ANDix SAX.. ST2## BITzp ANDzp ROLzp RMB2zp PLP.. AND## ROL.. ---- BITab ANDab ROLab BBR2zr
BMIre ANDiy ANDin ---- BITzx ANDzx ROLzx RMB3zp SEC.. ANDay DEC.. ---- BITax ANDax ROLax BBR3zr
RTI.. EORix SAY.. TMA## BSRre EORzp LSRzp RMB4zp PHA.. EOR## LSR.. ---- JMPab EORab LSRab BBR4zr
BVCre EORiy EORin TAM## CSL.. EORzx LSRzx RMB5zp CLI.. EORay PHY.. ---- ---- EORax LSRax BBR5zr
RTS.. ADCix CLA.. ---- STZzp ADCzp RORzp RMB6zp PLA.. ADC## ROR.. ---- JMPji ADCab RORab BBR6zr
BVSre ADCiy ADCin TIIbl STZzx ADCzx RORzx RMB7zp SEI.. ADCay PLY.. ---- JMPjx ADCax RORax BBR7zr
BRAre STAix CLX.. TSTtz STYzp STAzp STXzp SMB0zp DEY.. BIT## TXA.. ---- STYab STAab STXab BBS0zr
BCCre STAiy STAin TSTta STYzx STAzx STXzy SMB1zp TYA.. STAay TXS.. ---- STZab STAax STZax BBS1zr
LDY## LDAix LDX## TSTtx LDYzp LDAzp LDXzp SMB2zp TAY.. LDA## TAX.. ---- LDYab LDAab LDXab BBS2zr
BCSre LDAiy LDAin TSTty LDYzx LDAzx LDXzy SMB3zp CLV.. LDAay TSX.. ---- LDYax LDAax LDXay BBS3zr
CPY## CMPix CLY.. TDDbl CPYzp CMPzp DECzp SMB4zp INY.. CMP## DEX.. ---- CPYab CMPab DECab BBS4zr
BNEre CMPiy CMPin TINbl CSH.. CMPzx DECzx SMB5zp CLD.. CMPay PHX.. ---- ---- CMPax DECax BBS5zr
CPX## SBCix ---- TIAbl CPXzp SBCzp INCzp SMB6zp INX.. SBC## NOP.. ---- CPXab SBCab INCab BBS6zr
BEQre SBCiy SBCin TAIbl SET.. SBCzx INCzx SMB7zp SED.. SBCay PLX.. ---- ---- SBCax INCax BBS7zr
`

// sizes is how many bytes an instruction has that begins with a byte, sixteen a row.
const sizes = `
2 2 1 2 2 2 2 2 1 2 1 1 3 3 3 3
2 2 2 2 2 2 2 2 1 3 1 1 3 3 3 3
3 2 1 2 2 2 2 2 1 2 1 1 3 3 3 3
2 2 2 1 2 2 2 2 1 3 1 1 3 3 3 3
1 2 1 2 2 2 2 2 1 2 1 1 3 3 3 3
2 2 2 2 1 2 2 2 1 3 1 1 1 3 3 3
1 2 1 1 2 2 2 2 1 2 1 1 3 3 3 3
2 2 2 7 2 2 2 2 1 3 1 1 3 3 3 3
2 2 1 3 2 2 2 2 1 2 1 1 3 3 3 3
2 2 2 4 2 2 2 2 1 3 1 1 3 3 3 3
2 2 2 3 2 2 2 2 1 2 1 1 3 3 3 3
2 2 2 4 2 2 2 2 1 3 1 1 3 3 3 3
2 2 1 7 2 2 2 2 1 2 1 1 3 3 3 3
2 2 2 7 1 2 2 2 1 3 1 1 1 3 3 3
2 2 1 7 2 2 2 2 1 2 1 1 3 3 3 3
2 2 2 7 1 2 2 2 1 3 1 1 1 3 3 3
`

// cycles is how many accesses a byte takes at least, sixteen a row; x stands for 17.
const cycles = `
8 7 3 4 6 4 6 7 3 2 2 2 7 5 7 6
2 7 7 4 6 4 6 7 2 5 2 2 7 5 7 6
7 7 3 4 4 4 6 7 4 2 2 2 5 5 7 6
2 7 7 2 4 4 6 7 2 5 2 2 5 5 7 6
7 7 3 4 8 4 6 7 3 2 2 2 4 5 7 6
2 7 7 5 3 4 6 7 2 5 3 2 2 5 7 6
7 7 2 2 4 4 6 7 4 2 2 2 7 5 7 6
2 7 7 x 4 4 6 7 2 5 4 2 7 5 7 6
4 7 2 7 4 4 4 7 2 2 2 2 5 5 5 6
2 7 7 8 4 4 4 7 2 5 2 2 5 5 5 6
2 7 2 7 4 4 4 7 2 2 2 2 5 5 5 6
2 7 7 8 4 4 4 7 2 5 2 2 5 5 5 6
2 7 2 x 4 4 6 7 2 2 2 2 5 5 7 6
2 7 7 x 3 4 6 7 2 5 3 2 2 5 7 6
2 7 2 x 4 4 6 7 2 2 2 2 5 5 7 6
2 7 7 x 2 4 6 7 2 5 4 2 2 5 7 6
`

// marks is the chapter's letters of each mode, and that mode's number.
var marks = map[string]uint8{
	"..": 0, "##": 1, "zp": 2, "zx": 3, "zy": 4, "ab": 5, "ax": 6, "ay": 7, "in": 8, "ix": 9, "iy": 10, "re": 11, "zr": 12,
	"tz": 13, "tx": 14, "ta": 15, "ty": 16, "ji": 17, "jx": 18, "bl": 19,
}

// cells, sized and cycled are the cells of the three tables, each at its byte.
var cells, sized, cycled = strings.Fields(table), strings.Fields(sizes), strings.Fields(cycles)

// number is the number that a cell tells.
func number(s string) int {
	if s == "x" {
		return 17
	}
	return int(s[0] - '0')
}

// want is what a byte means, by the three tables, and whether it is known.
func want(b byte) (opcode.Op, bool) {
	cell := cells[b]
	op := opcode.Op{Name: "NOP", Size: number(sized[b]), Cycles: number(cycled[b])}
	if cell == "----" {
		return op, false
	}
	op.Name, op.Mode = cell[:len(cell)-2], marks[cell[len(cell)-2:]]
	return op, true
}

// names is all names that are known, each once, in the order of the table.
func names() []string {
	var out []string
	seen := map[string]bool{}
	for b := range 256 {
		if op, known := want(byte(b)); known && !seen[op.Name] {
			seen[op.Name] = true
			out = append(out, op.Name)
		}
	}
	return out
}

// P23.1: modes are numbered from 0 on, in their order.
func TestModesNumbered(t *testing.T) {
	got := []int{
		opcode.Implied, opcode.Imm, opcode.Zp, opcode.ZpX, opcode.ZpY, opcode.Abs, opcode.AbsX, opcode.AbsY, opcode.Ind, opcode.IndX,
		opcode.IndY, opcode.Rel, opcode.ZpRel, opcode.ImmZp, opcode.ImmZpX, opcode.ImmAbs, opcode.ImmAbsX, opcode.AbsInd, opcode.AbsIndX, opcode.Block,
	}
	for n, mode := range got {
		if mode != n {
			t.Errorf("%d: %d", n, mode)
		}
	}
}

// P23.1, P23.2: all 256 bytes, held against the chapter's table, sizes and cycles.
func TestOf(t *testing.T) {
	for n := range 256 {
		b := byte(n)
		op, known := want(b)
		if got := opcode.Of(b); got != op {
			t.Errorf("Of(%#x): %v, not %v", b, got, op)
		}
		if got := opcode.Known(b); got != known {
			t.Errorf("Known(%#x): %v", b, got)
		}
	}
}

// P23.1: of each mode how many bytes it has behind, all bytes of that mode alike.
func TestSizes(t *testing.T) {
	behind := [20]int{0, 1, 1, 1, 1, 2, 2, 2, 1, 1, 1, 1, 2, 2, 2, 3, 3, 2, 2, 6}
	seen := [20]bool{}
	for n := range 256 {
		op := opcode.Of(byte(n))
		seen[op.Mode] = true
		if op.Size != 1+behind[op.Mode] {
			t.Errorf("Of(%#x): %v", n, op)
		}
	}
	for mode, ok := range seen {
		if !ok {
			t.Errorf("no byte of mode %d", mode)
		}
	}
}

// P23.1, P23.2: bytes that are written here, one of each rule.
func TestOfByHand(t *testing.T) {
	for b, op := range map[byte]opcode.Op{
		0x00: {"BRK", opcode.Imm, 2, 8}, 0x02: {"SXY", opcode.Implied, 1, 3}, 0x03: {"ST0", opcode.Imm, 2, 4}, 0x07: {"RMB0", opcode.Zp, 2, 7},
		0x04: {"TSB", opcode.Zp, 2, 6}, 0x0E: {"ASL", opcode.Abs, 3, 7}, 0x16: {"ASL", opcode.ZpX, 2, 6}, 0x1C: {"TRB", opcode.Abs, 3, 7},
		0x20: {"JSR", opcode.Abs, 3, 7}, 0x28: {"PLP", opcode.Implied, 1, 4}, 0x40: {"RTI", opcode.Implied, 1, 7}, 0x43: {"TMA", opcode.Imm, 2, 4},
		0x44: {"BSR", opcode.Rel, 2, 8}, 0x48: {"PHA", opcode.Implied, 1, 3}, 0x4C: {"JMP", opcode.Abs, 3, 4}, 0x53: {"TAM", opcode.Imm, 2, 5},
		0x54: {"CSL", opcode.Implied, 1, 3}, 0x60: {"RTS", opcode.Implied, 1, 7}, 0x6C: {"JMP", opcode.AbsInd, 3, 7}, 0x7C: {"JMP", opcode.AbsIndX, 3, 7},
		0x7F: {"BBR7", opcode.ZpRel, 3, 6}, 0x80: {"BRA", opcode.Rel, 2, 4}, 0x83: {"TST", opcode.ImmZp, 3, 7}, 0x89: {"BIT", opcode.Imm, 2, 2},
		0x8A: {"TXA", opcode.Implied, 1, 2}, 0x91: {"STA", opcode.IndY, 2, 7}, 0x93: {"TST", opcode.ImmAbs, 4, 8}, 0x96: {"STX", opcode.ZpY, 2, 4},
		0xA1: {"LDA", opcode.IndX, 2, 7}, 0xA3: {"TST", opcode.ImmZpX, 3, 7}, 0xB2: {"LDA", opcode.Ind, 2, 7}, 0xB3: {"TST", opcode.ImmAbsX, 4, 8},
		0xBE: {"LDX", opcode.AbsY, 3, 5}, 0xD0: {"BNE", opcode.Rel, 2, 2}, 0xDE: {"DEC", opcode.AbsX, 3, 7}, 0xE3: {"TIA", opcode.Block, 7, 17},
		0xEA: {"NOP", opcode.Implied, 1, 2}, 0xF4: {"SET", opcode.Implied, 1, 2}, 0xFC: {"NOP", opcode.Implied, 1, 2}, 0xFF: {"BBS7", opcode.ZpRel, 3, 6},
	} {
		if got := opcode.Of(b); got != op {
			t.Errorf("Of(%#x): %v, not %v", b, got, op)
		}
	}
}

// P23.1, P23.5: 234 bytes are known, NOP among them; these 22 are not.
func TestKnown(t *testing.T) {
	nothing := []byte{
		0x0B, 0x1B, 0x2B, 0x33, 0x3B, 0x4B, 0x5B, 0x5C, 0x63, 0x6B, 0x7B, 0x8B, 0x9B, 0xAB, 0xBB, 0xCB, 0xDB, 0xDC, 0xE2, 0xEB, 0xFB, 0xFC,
	}
	for _, b := range nothing {
		if got := opcode.Of(b); opcode.Known(b) || got != (opcode.Op{Name: "NOP", Mode: opcode.Implied, Size: 1, Cycles: 2}) {
			t.Errorf("%#x: %v, %v", b, opcode.Known(b), got)
		}
	}
	sum := 0
	for n := range 256 {
		if opcode.Known(byte(n)) {
			sum++
		}
	}
	if sum != 234 || !opcode.Known(0xEA) {
		t.Errorf("%d are known; NOP: %v", sum, opcode.Known(0xEA))
	}
}

// P23.3: each name with each mode, of modes that there are none, too: the lowest byte that is known.
func TestFind(t *testing.T) {
	for _, name := range names() {
		for m := range 256 {
			mode := uint8(m)
			low, found := byte(0), false
			for n := 255; n >= 0; n-- {
				if op, known := want(byte(n)); known && op.Name == name && op.Mode == mode {
					low, found = byte(n), true
				}
			}
			if got, ok := opcode.Find(name, mode); got != low || ok != found {
				t.Errorf("Find(%s, %d): %#x, %v, not %#x, %v", name, mode, got, ok, low, found)
			}
		}
	}
}

// P23.3: answers that are written here; a byte that does nothing isn't found by NOP.
func TestFindByHand(t *testing.T) {
	for _, x := range []struct {
		name string
		mode uint8
		b    byte
	}{
		{"BRK", opcode.Imm, 0x00}, {"LDA", opcode.Imm, 0xA9}, {"NOP", opcode.Implied, 0xEA}, {"INC", opcode.Implied, 0x1A}, {"DEC", opcode.Implied, 0x3A},
		{"ASL", opcode.Implied, 0x0A}, {"JMP", opcode.AbsIndX, 0x7C}, {"TST", opcode.ImmAbsX, 0xB3}, {"RMB7", opcode.Zp, 0x77}, {"SMB0", opcode.Zp, 0x87},
		{"BBS7", opcode.ZpRel, 0xFF}, {"STX", opcode.ZpY, 0x96}, {"TAI", opcode.Block, 0xF3}, {"BSR", opcode.Rel, 0x44}, {"STZ", opcode.Abs, 0x9C}, {"STZ", opcode.AbsX, 0x9E},
	} {
		if got, ok := opcode.Find(x.name, x.mode); got != x.b || !ok {
			t.Errorf("Find(%s, %d): %#x, %v", x.name, x.mode, got, ok)
		}
	}
}

// P23.3, P2: names that there are none, and a name with a mode that isn't its own: 0 and false; no modes.
func TestFindNone(t *testing.T) {
	for _, name := range []string{
		"", " ", "L", "LD", "lda", "Lda", "LDA ", " LDA", "LDAA", "LDA#", "A", "RMB", "RMB8", "RMB00", "rmb0", "BBS", "----", "---", "NOP ", "nop", "BRK ", "LD\x00", "\xFF\xFF\xFF", "ÀÁ", "..",
		"BRK ##", "ORA ix", strings.Repeat("LDA", 1000), "JSRR", "TXY", "HLT",
	} {
		for mode := range 256 {
			if got, ok := opcode.Find(name, uint8(mode)); got != 0 || ok {
				t.Errorf("Find(%q, %d): %#x, %v", name, mode, got, ok)
			}
		}
		if got := opcode.Modes(name); len(got) != 0 {
			t.Errorf("Modes(%q): %v", name, got)
		}
	}
	for _, x := range []struct {
		name string
		mode uint8
	}{
		{"LDA", opcode.ZpY}, {"LDA", opcode.Implied}, {"STA", opcode.Imm}, {"LDX", opcode.ZpX}, {"LDY", opcode.ZpY}, {"BRK", opcode.Implied}, {"NOP", opcode.Imm}, {"JMP", opcode.Ind},
		{"JMP", opcode.AbsX}, {"TII", opcode.Implied}, {"BBR0", opcode.Zp}, {"BNE", opcode.ZpRel}, {"LDA", 20}, {"NOP", 20}, {"NOP", 255}, {"LDA", 0x81},
	} {
		if got, ok := opcode.Find(x.name, x.mode); got != 0 || ok {
			t.Errorf("Find(%s, %d): %#x, %v", x.name, x.mode, got, ok)
		}
	}
}

// P23.3: the modes of each name, rising, each once.
func TestModes(t *testing.T) {
	for _, name := range names() {
		var all []uint8
		for mode := range uint8(20) {
			for n := range 256 {
				if op, known := want(byte(n)); known && op.Name == name && op.Mode == mode {
					all = append(all, mode)
					break
				}
			}
		}
		if got := opcode.Modes(name); !reflect.DeepEqual(got, all) {
			t.Errorf("Modes(%s): %v, not %v", name, got, all)
		}
	}
	for name, all := range map[string][]uint8{
		"LDA": {opcode.Imm, opcode.Zp, opcode.ZpX, opcode.Abs, opcode.AbsX, opcode.AbsY, opcode.Ind, opcode.IndX, opcode.IndY}, "LDX": {opcode.Imm, opcode.Zp, opcode.ZpY, opcode.Abs, opcode.AbsY},
		"JMP": {opcode.Abs, opcode.AbsInd, opcode.AbsIndX}, "TST": {opcode.ImmZp, opcode.ImmZpX, opcode.ImmAbs, opcode.ImmAbsX}, "NOP": {opcode.Implied}, "TIN": {opcode.Block},
		"INC": {opcode.Implied, opcode.Zp, opcode.ZpX, opcode.Abs, opcode.AbsX}, "STZ": {opcode.Zp, opcode.ZpX, opcode.Abs, opcode.AbsX}, "TSB": {opcode.Zp, opcode.Abs}, "BBS3": {opcode.ZpRel},
	} {
		if got := opcode.Modes(name); !reflect.DeepEqual(got, all) {
			t.Errorf("Modes(%s): %v, not %v", name, got, all)
		}
	}
}

// P23.3: all names, rising, each once.
func TestNames(t *testing.T) {
	all := names()
	sort.Strings(all)
	got := opcode.Names()
	if !reflect.DeepEqual(got, all) {
		t.Errorf("%v, not %v", got, all)
	}
	if len(got) != 117 || got[0] != "ADC" || got[3] != "BBR0" || got[116] != "TYA" {
		t.Errorf("%d names: %v", len(got), got)
	}
}

// P23.3, P3, P5: rows that are answered are the caller's: what is done to one shows in no later one.
func TestRowsApart(t *testing.T) {
	names, modes := opcode.Names(), opcode.Modes("LDA")
	begins, _ := opcode.Walk([]byte{0xA9, 1, 0xEA})
	names[0], modes[0], begins[0] = "?", 99, 99
	_, _, _ = append(names[:5], "?"), append(modes[:3], 99), append(begins[:1], 99)
	if got := opcode.Names(); got[0] != "ADC" || got[5] != "BBR2" {
		t.Errorf("names: %v", got)
	}
	if got := opcode.Modes("LDA"); got[0] != opcode.Imm || got[3] != opcode.Abs {
		t.Errorf("modes: %v", got)
	}
	if got, _ := opcode.Walk([]byte{0xA9, 1, 0xEA}); !reflect.DeepEqual(got, []int{0, 2}) {
		t.Errorf("begins: %v", got)
	}
}

// P23.4: where instructions begin, of each size, of bytes that do nothing, and of a last one that isn't whole; what lies behind that isn't looked at.
func TestWalk(t *testing.T) {
	for _, x := range []struct {
		code   []byte
		begins []int
		bytes  int
	}{
		{nil, nil, 0}, {[]byte{}, nil, 0}, {[]byte{0xEA}, []int{0}, 1}, {[]byte{0x0B}, []int{0}, 1}, {[]byte{0xA9}, nil, 0}, {[]byte{0xA9, 0xA9}, []int{0}, 2}, {[]byte{0x20, 0xEA}, nil, 0},
		{[]byte{0x20, 1, 2}, []int{0}, 3}, {[]byte{0x93, 1, 2, 3}, []int{0}, 4}, {[]byte{0x93, 1, 2}, nil, 0}, {[]byte{0x73, 1, 2, 3, 4, 5, 6}, []int{0}, 7}, {[]byte{0x73, 1, 2, 3, 4, 5}, nil, 0},
		{[]byte{0xA9, 5, 0x0B, 0x8D, 0, 0x20, 0xB3, 1, 2, 3, 0x73, 1, 2, 3, 4, 5, 6, 0x60}, []int{0, 2, 3, 6, 10, 17}, 18},
		{[]byte{0xEA, 0xFC, 0xA9, 0xEA, 0x4C, 0xEA, 0xEA}, []int{0, 1, 2, 4}, 7}, {[]byte{0xEA, 0x4C, 0xEA}, []int{0}, 1}, {[]byte{0xA9, 5, 0xF3, 0xEA, 0xEA, 0xEA, 0xEA, 0xEA}, []int{0}, 2},
		{[]byte{0, 0, 0, 0, 0}, []int{0, 2}, 4}, {[]byte{0x0B, 0x1B, 0xE2, 0x63}, []int{0, 1, 2, 3}, 4},
	} {
		if got, bytes := opcode.Walk(x.code); !(len(got) == 0 && len(x.begins) == 0 || reflect.DeepEqual(got, x.begins)) || bytes != x.bytes {
			t.Errorf("Walk(%#x): %v, %d", x.code, got, bytes)
		}
	}
}

// P23.4: each byte, with as many bytes behind as it needs, with one less, and with an instruction behind.
func TestWalkEach(t *testing.T) {
	for n := range 256 {
		op, _ := want(byte(n))
		code := make([]byte, op.Size, op.Size+1)
		code[0] = byte(n)
		if got, bytes := opcode.Walk(code); !reflect.DeepEqual(got, []int{0}) || bytes != op.Size {
			t.Errorf("Walk(%#x): %v, %d", code, got, bytes)
		}
		if got, bytes := opcode.Walk(code[:op.Size-1]); len(got) != 0 || bytes != 0 {
			t.Errorf("Walk(%#x): %v, %d", code[:op.Size-1], got, bytes)
		}
		if got, bytes := opcode.Walk(append(code, 0xEA)); !reflect.DeepEqual(got, []int{0, op.Size}) || bytes != op.Size+1 {
			t.Errorf("Walk(%#x): %v, %d", append(code, 0xEA), got, bytes)
		}
	}
}

// P23.4, P3: bytes that are handed in stay as they are, spare room, too, and spare room isn't read.
func TestWalkStays(t *testing.T) {
	room := []byte{0xA9, 1, 0x20, 2, 3, 0xEA}
	if got, bytes := opcode.Walk(room[:4]); !reflect.DeepEqual(got, []int{0}) || bytes != 2 {
		t.Errorf("%v, %d", got, bytes)
	}
	if !reflect.DeepEqual(room, []byte{0xA9, 1, 0x20, 2, 3, 0xEA}) {
		t.Errorf("%#x", room)
	}
}

// P23.4: many instructions.
func TestWalkLong(t *testing.T) {
	code := make([]byte, 0, 256*7)
	var begins []int
	for n := range 256 {
		begins = append(begins, len(code))
		code = append(code, byte(n))
		code = append(code, make([]byte, number(sized[n])-1)...)
	}
	if got, bytes := opcode.Walk(code); !reflect.DeepEqual(got, begins) || bytes != len(code) {
		t.Errorf("%d begin, %d bytes", len(got), bytes)
	}
}

// P23.5: each byte that is known is found by its name and its mode; no other one is like it.
func TestOnce(t *testing.T) {
	seen := map[opcode.Op]byte{}
	for n := range 256 {
		b := byte(n)
		if !opcode.Known(b) {
			continue
		}
		op := opcode.Of(b)
		if got, ok := opcode.Find(op.Name, op.Mode); got != b || !ok {
			t.Errorf("Find(%s, %d): %#x, %v, not %#x", op.Name, op.Mode, got, ok, b)
		}
		key := opcode.Op{Name: op.Name, Mode: op.Mode}
		if other, twice := seen[key]; twice {
			t.Errorf("%#x is like %#x", b, other)
		}
		seen[key] = b
	}
	if len(seen) != 234 {
		t.Errorf("%d are known", len(seen))
	}
}

// The examples of the chapter.
func TestExamples(t *testing.T) {
	if got := opcode.Of(0x73); got != (opcode.Op{Name: "TII", Mode: opcode.Block, Size: 7, Cycles: 17}) {
		t.Errorf("Of(0x73): %v", got)
	}
	if got := opcode.Of(0x0B); got != (opcode.Op{Name: "NOP", Mode: opcode.Implied, Size: 1, Cycles: 2}) {
		t.Errorf("Of(0x0B): %v", got)
	}
	if got, ok := opcode.Find("LDA", opcode.Imm); got != 0xA9 || !ok {
		t.Errorf("Find(LDA, Imm): %#x, %v", got, ok)
	}
}
