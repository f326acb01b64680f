package isa_test

import (
	"fmt"
	"reflect"
	"slices"
	"strings"
	"testing"

	"gannet/adder"
	"gannet/api"
	"gannet/bus"
	"gannet/enter"
	"gannet/isa"
	"gannet/logic"
	"gannet/opcode"
	"gannet/state"
)

// model is a core as the chapter tells it: each instruction is a row of letters, which are done one by one.
type model struct {
	s    api.State
	b    *bus.Bus
	op   opcode.Op
	t    bool
	l    []byte // the bytes behind
	word uint16 // through which one goes, or that is pulled, or a vector
	v, m byte   // the value, and the byte of the zero page instead of A
}

// phys is a physical address.
func (m *model) phys(a uint16) uint32 { return uint32(m.s.Mpr[a/8192])*8192 + uint32(a%8192) }

// get and put are accesses.
func (m *model) get(kind uint8, a uint16) byte    { return m.b.Read(m.phys(a), kind) }
func (m *model) put(kind uint8, a uint16, v byte) { m.b.Write(m.phys(a), v, kind) }

// push and pull are those of the stack.
func (m *model) push(v byte) {
	m.put(api.Push, 0x2100+uint16(m.s.S), v)
	m.s.S--
}

func (m *model) pull() byte {
	m.s.S++
	return m.get(api.Pull, 0x2100+uint16(m.s.S))
}

// is tells whether a name is one of many.
func is(name, many string) bool { return slices.Contains(strings.Fields(many), name) }

// row is what is done behind the first byte, letter by letter.
func (m *model) row() string {
	name, mode := m.op.Name, m.op.Mode
	behind := strings.Repeat("O", m.op.Size-1)
	place := "D"
	if mode == opcode.Ind || mode == opcode.IndX || mode == opcode.IndY {
		place = "DLHD"
	}
	stem := name[:3]
	switch {
	case mode == opcode.Block:
		return "yaxOOOOOODBDXAYDD"
	case is(name, "LDA LDX LDY ADC SBC AND ORA EOR CMP CPX CPY BIT"):
		row := behind + place + "V"
		if mode == opcode.Imm {
			row = behind + "i"
		}
		if m.t && is(name, "AND ORA EOR ADC") {
			row += "ZD!Y"
		} else {
			row += "!"
		}
		if m.s.P&api.FlagD != 0 && is(name, "ADC SBC") {
			row += "D"
		}
		return row
	case is(name, "STA STX STY STZ"):
		return behind + place + "!S"
	case is(name, "ASL LSR ROL ROR INC DEC TSB TRB") && mode == opcode.Implied:
		return "D!"
	case is(name, "ASL LSR ROL ROR INC DEC TSB TRB"):
		return behind + place + "VD!S"
	case is(stem, "RMB SMB"):
		return behind + place + "VDD!S"
	case is(name, "TST"):
		return behind + "DDVD!"
	case is(name, "SAX SAY SXY CSL CSH"):
		return "DD!"
	case is(name, "TAM"):
		return "ODDD!"
	case is(name, "TMA"):
		return "ODD!"
	case is(name, "ST0 ST1 ST2"):
		return "ODP"
	case is(name, "BRA"):
		return "ODD>"
	case is(stem, "BBR BBS"):
		return "OODVD?DD>"
	case is(name, "BSR"):
		return "OD12DDD>"
	case mode == opcode.Rel:
		return "O?DD>"
	case is(name, "JMP") && mode == opcode.Abs:
		return "OOD^"
	case is(name, "JMP"):
		return "OODLHD="
	case is(name, "JSR"):
		return "OOD12D^"
	case is(name, "RTS"):
		return "DDlhDD+"
	case is(name, "RTI"):
		return "DDqlhD="
	case is(name, "BRK"):
		return "O34fvwDe="
	case is(name, "PHA PHX PHY"):
		return "Dr"
	case is(name, "PHP"):
		return "Df"
	case is(name, "PLA PLX PLY"):
		return "DDp!"
	case is(name, "PLP"):
		return "DDq"
	}
	return "D!"
}

// step does an instruction.
func (m *model) step() byte {
	m.t = m.s.P&api.FlagT != 0
	m.s.P &^= api.FlagT
	b := m.get(api.Fetch, m.s.PC)
	m.s.PC++
	m.op, m.l = opcode.Of(b), nil
	for _, letter := range m.row() {
		if !m.do(letter) {
			break
		}
	}
	m.b.Turn()
	return b
}

// do does what a letter tells; false, if nothing comes behind.
func (m *model) do(letter rune) bool {
	switch letter {
	case 'O':
		m.l = append(m.l, m.get(api.Operand, m.s.PC))
		m.s.PC++
	case 'D':
		m.get(api.Dummy, m.s.PC)
	case 'i':
		m.v = m.l[0]
	case 'L':
		m.word = uint16(m.get(api.Load, m.pointer(0)))
	case 'H':
		m.word += 256 * uint16(m.get(api.Load, m.pointer(1)))
	case 'V':
		m.v = m.get(api.Load, m.place())
	case 'S':
		m.put(api.Store, m.place(), m.v)
	case 'Z':
		m.m = m.get(api.Load, 0x2000+uint16(m.s.X))
	case 'Y':
		if m.op.Mode == opcode.Block {
			m.s.Y = m.pull()
		} else {
			m.put(api.Store, 0x2000+uint16(m.s.X), m.m)
		}
	case 'P':
		m.b.Write(0x1FE000+uint32([]byte{0, 2, 3}[m.op.Name[2]-'0']), m.l[0], api.Store)
	case '?':
		return m.taken()
	case '!':
		m.effect()
	case 'B':
		m.block()
	default:
		m.stack(letter)
	}
	return true
}

// stack does what a letter tells of the stack, or of the way on.
func (m *model) stack(letter rune) {
	switch letter {
	case '1':
		m.push(byte((m.s.PC - 1) / 256))
	case '2':
		m.push(byte(m.s.PC - 1))
	case '3':
		m.push(byte(m.s.PC / 256))
	case '4':
		m.push(byte(m.s.PC))
	case 'f':
		m.push(m.s.P | api.FlagB)
	case 'r':
		m.push(*m.register(m.op.Name[2]))
	case 'a', 'x', 'y':
		m.push(*m.register(byte(letter) - 32))
	case 'A', 'X':
		*m.register(byte(letter)) = m.pull()
	case 'p':
		m.v = m.pull()
	case 'q':
		m.s.P = m.pull() &^ api.FlagB
	case 'l':
		m.word = uint16(m.pull())
	case 'h':
		m.word += 256 * uint16(m.pull())
	case 'v':
		m.word = uint16(m.get(api.Vector, 0xFFF6))
	case 'w':
		m.word += 256 * uint16(m.get(api.Vector, 0xFFF7))
	case 'e':
		m.s.P = m.s.P&^(api.FlagB|api.FlagD|api.FlagT) | api.FlagI
	case '^':
		m.s.PC = uint16(m.l[0]) + 256*uint16(m.l[1])
	case '=':
		m.s.PC = m.word
	case '+':
		m.s.PC = m.word + 1
	case '>':
		m.s.PC += uint16(int16(int8(m.l[len(m.l)-1])))
	default:
		panic("no such letter")
	}
}

// pointer is where a byte of the word is through which one goes.
func (m *model) pointer(n byte) uint16 {
	switch m.op.Mode {
	case opcode.IndX:
		return 0x2000 + uint16(m.l[0]+m.s.X+n)
	case opcode.AbsInd:
		return uint16(m.l[0]) + 256*uint16(m.l[1]) + uint16(n)
	case opcode.AbsIndX:
		return uint16(m.l[0]) + 256*uint16(m.l[1]) + uint16(m.s.X) + uint16(n)
	}
	return 0x2000 + uint16(m.l[0]+n)
}

// place is where what is meant is.
func (m *model) place() uint16 {
	l := m.l
	if m.op.Name == "TST" {
		l = l[1:]
	}
	add := byte(0)
	switch m.op.Mode {
	case opcode.ZpX, opcode.AbsX, opcode.ImmZpX, opcode.ImmAbsX:
		add = m.s.X
	case opcode.ZpY, opcode.AbsY, opcode.IndY:
		add = m.s.Y
	}
	switch m.op.Mode {
	case opcode.Abs, opcode.AbsX, opcode.AbsY, opcode.ImmAbs, opcode.ImmAbsX:
		return uint16(l[0]) + 256*uint16(l[1]) + uint16(add)
	case opcode.Ind, opcode.IndX, opcode.IndY:
		return m.word + uint16(add)
	}
	return 0x2000 + uint16(l[0]+add)
}

// taken tells whether a branch is.
func (m *model) taken() bool {
	name := m.op.Name
	if len(name) == 4 {
		return m.v>>(name[3]-'0')&1 == (name[2]-'R')&1
	}
	flag := map[string]byte{"BPL": api.FlagN, "BMI": api.FlagN, "BVC": api.FlagV, "BVS": api.FlagV, "BCC": api.FlagC, "BCS": api.FlagC, "BNE": api.FlagZ, "BEQ": api.FlagZ}[name]
	return m.s.P&flag != 0 == is(name, "BMI BVS BCS BEQ")
}

// register is that of a letter; A of all others.
func (m *model) register(letter byte) *byte {
	if r, ok := map[byte]*byte{'X': &m.s.X, 'Y': &m.s.Y, 'S': &m.s.S}[letter]; ok {
		return r
	}
	return &m.s.A
}

// result tells N and Z.
func (m *model) result(v byte) byte {
	m.s.P = m.s.P&^(api.FlagN|api.FlagZ) | v&api.FlagN
	if v == 0 {
		m.s.P |= api.FlagZ
	}
	return v
}

// effect does a name's own work.
func (m *model) effect() {
	name := m.op.Name
	r := m.register(name[2])
	bit := byte(1) << (name[len(name)-1] & 7)
	flag := map[byte]byte{'C': api.FlagC, 'D': api.FlagD, 'I': api.FlagI, 'V': api.FlagV, 'T': api.FlagT}[name[2]]
	switch {
	case is(name, "LDA LDX LDY PLA PLX PLY"):
		*r = m.result(m.v)
	case is(name, "AND ORA EOR ADC SBC"):
		m.together()
	case is(name, "CMP CPX CPY"):
		m.s.P = adder.Compare(*r, m.v, m.s.P)
	case name == "BIT":
		m.s.P = logic.Test(m.s.A, m.v, m.s.P)
	case name == "TST":
		m.s.P = logic.Test(m.l[0], m.v, m.s.P)
	case name == "STZ":
		m.v = 0
	case is(name, "STA STX STY"):
		m.v = *r
	case is(name, "ASL LSR ROL ROR INC DEC TSB TRB"):
		m.changed()
	case is(name[:3], "RMB"):
		m.v &^= bit
	case is(name[:3], "SMB"):
		m.v |= bit
	case is(name, "TAX TAY TSX TXA TYA"):
		*r = m.result(*m.register(name[1]))
	case name == "TXS":
		m.s.S = m.s.X
	case is(name, "INX INY"):
		*r = m.result(*r + 1)
	case is(name, "DEX DEY"):
		*r = m.result(*r - 1)
	case is(name, "CLA CLX CLY"):
		*r = 0
	case is(name, "CLC CLD CLI CLV"):
		m.s.P &^= flag
	case is(name, "SEC SED SEI SET"):
		m.s.P |= flag
	case is(name, "SAX SAY SXY"):
		o := m.register(name[1])
		*o, *r = *r, *o
	case is(name, "CSL CSH"):
		m.b.Ask(name == "CSH")
	case name == "TAM":
		m.s.Last = m.s.A
		for n := range 8 {
			if m.l[0]>>n&1 == 1 {
				m.s.Mpr[n] = m.s.A
			}
		}
	case name == "TMA":
		for n := 7; n >= 0; n-- {
			if m.l[0]>>n&1 == 1 {
				m.s.Last = m.s.Mpr[n]
			}
		}
		m.s.A = m.s.Last
	}
}

// together is what comes of A, or of the byte instead, and the value.
func (m *model) together() {
	to := &m.s.A
	if m.t && m.op.Name != "SBC" {
		to = &m.m
	}
	switch m.op.Name {
	case "AND":
		*to, m.s.P = logic.And(*to, m.v, m.s.P)
	case "ORA":
		*to, m.s.P = logic.Or(*to, m.v, m.s.P)
	case "EOR":
		*to, m.s.P = logic.Eor(*to, m.v, m.s.P)
	case "ADC":
		*to, m.s.P, _ = adder.Add(*to, m.v, m.s.P)
	case "SBC":
		*to, m.s.P, _ = adder.Sub(*to, m.v, m.s.P)
	}
}

// changed is what comes of A, or of the value.
func (m *model) changed() {
	to := &m.v
	if m.op.Mode == opcode.Implied {
		to = &m.s.A
	}
	switch m.op.Name {
	case "TSB":
		*to, m.s.P = logic.Tsb(m.s.A, *to, m.s.P)
	case "TRB":
		*to, m.s.P = logic.Trb(m.s.A, *to, m.s.P)
	default:
		does := map[string]func(v, p byte) (byte, byte){"ASL": logic.Asl, "LSR": logic.Lsr, "ROL": logic.Rol, "ROR": logic.Ror, "INC": logic.Inc, "DEC": logic.Dec}
		*to, m.s.P = does[m.op.Name](*to, m.s.P)
	}
}

// block moves bytes, as long as accesses are left.
func (m *model) block() {
	word := func(n int) uint16 { return uint16(m.l[n]) + 256*uint16(m.l[n+1]) }
	from, to, n := word(0), word(2), int(word(4))
	if n == 0 {
		n = 65536
	}
	d := func() { m.get(api.Dummy, m.s.PC) }
	for i := range n {
		if m.b.Left() == 0 {
			return
		}
		d()
		v := m.get(api.Load, from)
		d()
		d()
		m.put(api.Store, to, v)
		d()
		// How far both go on behind a byte with an even number, and behind one with an odd one.
		far := map[string][2][2]int{"TII": {{1, 1}, {1, 1}}, "TDD": {{-1, -1}, {-1, -1}}, "TIN": {{1, 0}, {1, 0}}, "TIA": {{1, 1}, {1, -1}}, "TAI": {{1, 1}, {-1, 1}}}[m.op.Name][i%2]
		from += uint16(far[0])
		to += uint16(far[1])
	}
}

// unlike is what of a core and its bus isn't as the model has it; nothing, if all is.
func (m *model) unlike(c *isa.Core, b *bus.Bus) string {
	want := m.s
	want.Fast = m.b.Fast()
	switch l, k := b.Trace(), m.b.Trace(); {
	case !slices.Equal(l, k):
		n := 0
		for n < len(l) && n < len(k) && l[n] == k[n] {
			n++
		}
		return fmt.Sprintf("access %d: %s, not %s", n, told(l[n:min(n+4, len(l))]), told(k[n:min(n+4, len(k))]))
	case b.Over() != m.b.Over() || b.Left() != m.b.Left() || b.Now() != m.b.Now():
		return fmt.Sprintf("over %v, at %d, not %v, %d", b.Over(), b.Now(), m.b.Over(), m.b.Now())
	case !b.Over() && c.State() != want:
		return state.Text(c.State()) + ", not\n" + state.Text(want)
	case !reflect.DeepEqual(b.Ram(), m.b.Ram()):
		return "memory: " + ram(b) + ", not\n" + ram(m.b)
	case b.Status() != m.b.Status():
		return "devices"
	}
	return ""
}

// chance is numbers that follow one another.
type chance uint64

func (x *chance) next(n int) int {
	*x = *x*6364136223846793005 + 1442695040888963407
	return int(uint64(*x) >> 33 % uint64(n))
}

// one is one of many.
func (x *chance) one(many ...byte) byte { return many[x.next(len(many))] }

// any is registers, of banks of each sort.
func (x *chance) any() api.State {
	s := api.State{A: byte(x.next(256)), X: byte(x.next(256)), Y: byte(x.next(256)), S: x.one(0, 1, 2, 3, 0x80, 0xFE, 0xFF, byte(x.next(256))), P: byte(x.next(256)), Last: byte(x.next(256))}
	for n := range s.Mpr {
		s.Mpr[n] = x.one(0, 1, 2, 3, 0xF8, 0xF9, 0xFA, 0xFB, 0xF8, 0xFF, 0x80, 0x55)
	}
	if x.next(4) > 0 {
		s.Mpr[1] = 0xF8
	}
	s.PC = uint16(x.next(65536))
	if x.next(8) == 0 {
		s.PC = 0xFFFA + uint16(x.next(6))
	}
	return s
}

// bytes is so many bytes.
func (x *chance) bytes(n int) []byte {
	l := make([]byte, n)
	for i := range l {
		l[i] = byte(x.next(256))
	}
	return l
}

// P28.2 to P28.8: each of all bytes, of registers, pages, images and memories of all sorts, held against the model.
func TestAllBytes(t *testing.T) {
	x := chance(7)
	for range 40 {
		rom, memory := x.bytes(4*api.PageSize), x.bytes(1024)
		for n := range 256 {
			s := x.any()
			s.Mpr[s.PC>>13] = x.one(0, 1, 2, 3, 0xF8, 0xFB)
			code := append([]byte{byte(n)}, x.bytes(6)...)
			if x.next(10) > 0 {
				// Most blocks are short.
				code[5], code[6] = byte(x.next(20)+1), 0
			}
			held, laid := slices.Clone(rom), []api.Piece{{Bytes: memory}}
			for i, v := range code {
				at := s.PC + uint16(i)
				switch bank := s.Mpr[at>>13]; {
				case bank < 4:
					held[int(bank)*api.PageSize+int(at&0x1FFF)] = v
				case bank >= 0xF8:
					laid = append(laid, api.Piece{At: int(at & 0x1FFF), Bytes: []byte{v}})
				}
			}
			b := on(t, held, 300)
			b.Fill(laid)
			b.Ask(x.next(2) == 0)
			b.Turn()
			s.Fast = x.next(2) == 0
			m, c := &model{s: s, b: b.Clone()}, isa.New(s, b)
			got, want := c.Step(), m.step()
			if u := m.unlike(c, b); u != "" || got != want {
				t.Fatalf("%#x, %s: %#x, not %#x; %s", n, state.Text(s), got, want, u)
			}
		}
	}
}

// P28.2 to P28.8: many instructions, one behind the other, with entries between, held against the model.
func TestManySteps(t *testing.T) {
	for seed := range 40 {
		x := chance(seed)
		rom := x.bytes(4 * api.PageSize)
		b := on(t, rom, 20000)
		b.Fill([]api.Piece{{Bytes: x.bytes(api.PageSize)}})
		s := x.any()
		m, c := &model{s: s, b: b.Clone()}, isa.New(s, b)
		for i := 0; !b.Over(); i++ {
			if x.next(30) == 0 {
				kind := uint8(x.next(7))
				c.Enter(kind)
				m.s = enter.Do(m.b, m.s, kind)
			} else if got, want := c.Step(), m.step(); got != want {
				t.Fatalf("seed %d, step %d: %#x, not %#x", seed, i, got, want)
			}
			if i%500 == 0 {
				if u := m.unlike(c, b); u != "" {
					t.Fatalf("seed %d, step %d: %s", seed, i, u)
				}
			}
		}
		if u := m.unlike(c, b); u != "" {
			t.Fatalf("seed %d, at last: %s", seed, u)
		}
	}
}
