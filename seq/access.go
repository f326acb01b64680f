package seq

import (
	"gannet/api"
	"gannet/burst"
	"gannet/effect"
	"gannet/enter"
	"gannet/flags"
	"gannet/irq"
	"gannet/micro"
	"gannet/mmu"
	"gannet/modes"
	"gannet/moves"
	"gannet/octet"
	"gannet/opcode"
)

// way is how an op's access is done, when it is told what that is about.
func (q *Seq) way(o micro.Op) func(what byte) {
	switch o.Kind() {
	case api.Fetch:
		return q.fetch
	case api.Operand:
		return q.operand
	case api.Load:
		return q.load
	case api.Store:
		return q.store
	case api.Push:
		return q.push
	case api.Pull:
		return q.pull
	case api.Vector:
		return q.vector
	}
	return q.idle
}

// read is an access that reads at a logical address.
func (q *Seq) read(kind uint8, at uint16) byte {
	return enter.Access(q.bus, q.s, enter.Step{Kind: kind, Addr: at})
}

// write is an access that writes at a logical address.
func (q *Seq) write(kind uint8, at uint16, v byte) {
	enter.Access(q.bus, q.s, enter.Step{Kind: kind, Addr: at, Write: true, Data: v})
}

// next is the byte at PC, which goes on.
func (q *Seq) next(kind uint8) byte {
	v := q.read(kind, q.s.PC)
	q.s.PC++
	return v
}

// fetch begins an instruction.
func (q *Seq) fetch(byte) {
	q.s.P, q.t = flags.Begun(q.s.P)
	b := q.next(api.Fetch)
	q.op, q.ops = opcode.Of(b), micro.Of(b)
}

// operand reads a byte behind, which is a value where no other one is read. Behind the last one of a block that is known.
func (q *Seq) operand(byte) {
	q.v = q.next(api.Operand)
	q.behind = append(q.behind, q.v)
	if l := q.behind; q.op.Mode == opcode.Block && len(l) == modes.Behind(opcode.Block) {
		kind, _ := moves.Kind(q.op.Name)
		q.block, _ = burst.New(kind, octet.Word(l[0], l[1]), octet.Word(l[2], l[3]), octet.Word(l[4], l[5]))
	}
}

// idle does nothing: PC is read, or, by a reset, the stack.
func (q *Seq) idle(what byte) {
	at := q.s.PC
	if what == 's' {
		at = mmu.Stack(q.s.S)
		q.s.S--
	}
	q.read(api.Dummy, at)
}

// load reads a value, or what else is meant.
func (q *Seq) load(what byte) {
	switch what {
	case 'l', 'h':
		lo, hi, _ := modes.Pointer(q.op.Mode, q.behind, q.s.X)
		at := lo
		if what == 'h' {
			at = hi
		}
		q.half(what, q.read(api.Load, at))
	case 'm':
		_, at := q.block.Next()
		q.v = q.read(api.Load, at)
	case 'x':
		q.x = q.read(api.Load, mmu.Zero(q.s.X))
	default:
		q.v = q.read(api.Load, q.place())
	}
}

// half keeps one of a word's bytes.
func (q *Seq) half(what, v byte) {
	lo, hi := v, octet.Hi(q.word)
	if what == 'h' {
		lo, hi = octet.Lo(q.word), v
	}
	q.word = octet.Word(lo, hi)
}

// place is where what is meant is.
func (q *Seq) place() uint16 {
	at, _ := modes.Address(q.op.Mode, q.behind, q.s.X, q.s.Y, q.word)
	return at
}

// store writes what comes of a value, or what else is meant.
func (q *Seq) store(what byte) {
	switch what {
	case 'p':
		q.bus.Write(effect.Port(q.op.Name), q.v, api.Store)
	case 'm':
		_, at := q.block.Next()
		q.write(api.Store, at, q.block.Data())
	case 'x':
		q.write(api.Store, mmu.Zero(q.s.X), q.x)
	case 's':
		q.write(api.Store, q.place(), effect.Kept(q.op.Name, q.s))
	default:
		q.write(api.Store, q.place(), q.v)
	}
}

// push writes to the stack.
func (q *Seq) push(what byte) {
	q.write(api.Push, mmu.Stack(q.s.S), q.pushed(what))
	q.s.S--
}

// pushed is the byte that is pushed.
func (q *Seq) pushed(what byte) byte {
	switch what {
	case 'h':
		return octet.Hi(q.s.PC)
	case 'l':
		return octet.Lo(q.s.PC)
	case 'H':
		return octet.Hi(q.s.PC - 1)
	case 'L':
		return octet.Lo(q.s.PC - 1)
	case 'f', 'q':
		return flags.Pushed(q.s.P, what == 'f')
	case 's':
		return effect.Kept(q.op.Name, q.s)
	}
	return *q.register(what)
}

// pull reads from the stack.
func (q *Seq) pull(what byte) {
	q.s.S++
	v := q.read(api.Pull, mmu.Stack(q.s.S))
	switch what {
	case 'l', 'h':
		q.half(what, v)
	case 'f':
		q.s.P = flags.Pulled(v)
	case 'v':
		q.v = v
	default:
		*q.register(what) = v
	}
}

// register is that of a small letter.
func (q *Seq) register(what byte) *byte {
	switch what {
	case 'x':
		return &q.s.X
	case 'y':
		return &q.s.Y
	}
	return &q.s.A
}

// vector reads where an entry goes. BRK goes where irq2 does.
func (q *Seq) vector(what byte) {
	kind := q.entry
	if kind == api.Nothing {
		kind = api.ByIrq2
	}
	at, _ := irq.Goes(kind)
	if what == 'h' {
		at++
	}
	q.half(what, q.read(api.Vector, at))
}
