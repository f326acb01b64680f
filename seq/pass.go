package seq

import (
	"gannet/api"
	"gannet/burst"
	"gannet/effect"
	"gannet/flags"
	"gannet/micro"
)

// When an op is done that isn't done always.
const (
	byT     = 'T'
	byD     = 'D'
	byTaken = 'B'
	byBytes = 'N'
)

// pass goes on from an op that was done to the next one that is, or else meets a boundary.
func (q *Seq) pass(was micro.Op) {
	if was.When == byBytes && q.block.Phase() == 0 && q.more() {
		// The next byte has the same ops: they begin as many back as a byte has cycles.
		q.at -= burst.Cycles(1)
	}
next:
	q.at++
	if q.at == len(q.ops) {
		q.meet()
		return
	}
	if !q.due(q.ops[q.at]) {
		goto next
	}
}

// meet meets a boundary.
func (q *Seq) meet() {
	q.bus.Turn()
	q.s.Fast = q.bus.Fast()
	q.last = q.s
	q.steps++
	q.task = task{}
}

// due tells whether an op is done.
func (q *Seq) due(o micro.Op) bool {
	switch o.When {
	case byT:
		return q.t
	case byD:
		return flags.Is(q.s.P, api.FlagD)
	case byTaken:
		return effect.Goes(q.op.Name, q.s.P, q.v)
	case byBytes:
		return q.more()
	}
	return true
}

// more tells whether a block goes on. As soon as no access is left no further byte is begun.
func (q *Seq) more() bool {
	return !q.block.Done() && (q.block.Phase() > 0 || q.bus.Left() > 0)
}

// works tells whether a name's own work is done behind an op. Where a byte of the zero page stands instead of A, the work waits for it.
func (q *Seq) works(o micro.Op) bool {
	return o.Act && (o.When == byT || !q.instead())
}

// instead tells whether a byte of the zero page stands instead of A.
func (q *Seq) instead() bool {
	switch q.op.Name {
	case "AND", "ORA", "EOR", "ADC":
		return q.t
	}
	return false
}
