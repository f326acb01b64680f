package walk

import (
	"iter"

	"gannet/api"
	"gannet/bus"
	"gannet/enter"
	"gannet/flags"
	"gannet/hard"
	"gannet/isa"
	"gannet/script"
)

// run is a run: its bus, and the registers on it.
type run struct {
	bus  *bus.Bus
	core *isa.Core
}

// begin is a run ahead of its first step.
func begin(s api.Script) (*run, api.Fault) {
	if f := script.Check(s); f != (api.Fault{}) {
		return nil, f
	}
	page, f := hard.New(s.Feeds, s.Edges)
	if f != (api.Fault{}) {
		return nil, f
	}
	b := bus.New(s.Rom, page, s.Budget)
	return &run{bus: b, core: isa.New(enter.Begin(), b)}, api.Fault{}
}

// steps gives the steps that are done, one behind the other. What is behind one is asked only when the next one is wanted.
func (r *run) steps() iter.Seq[Mark] {
	return func(yield func(Mark) bool) {
		kind := uint8(api.ByReset)
		for r.bus.Left() > 0 {
			m := r.step(kind)
			// One that had too few accesses isn't done, and is the last one.
			if r.bus.Over() || !yield(m) {
				return
			}
			kind = r.bus.Choose(flags.Is(m.State.P, api.FlagI))
		}
	}
}

// step does an entry of a kind, or, of none, an instruction.
func (r *run) step(kind uint8) Mark {
	m := Mark{Stamp: r.bus.Now(), Entry: kind}
	if kind == api.Nothing {
		m.Code = r.core.Step()
	} else {
		r.core.Enter(kind)
	}
	m.State = r.core.State()
	return m
}
