package machine

import (
	"gannet/api"
	"gannet/bus"
	"gannet/enter"
	"gannet/flags"
	"gannet/hard"
	"gannet/script"
	"gannet/seq"
)

// way is registers on a bus, and how many accesses that had at first.
type way struct {
	*seq.Seq
	bus    *bus.Bus
	budget int64
}

// begin is a script's way, ahead of its first cycle.
func begin(s api.Script) (way, api.Fault) {
	if f := script.Check(s); f != (api.Fault{}) {
		return way{}, f
	}
	page, f := hard.New(s.Feeds, s.Edges)
	if f != (api.Fault{}) {
		return way{}, f
	}
	b := bus.New(s.Rom, page, s.Budget)
	return way{Seq: seq.New(enter.Begin(), b), bus: b, budget: s.Budget}, api.Fault{}
}

// cycle does one cycle; false, if no access is left. What is entered is chosen only now, so that behind the last access nothing is.
func (w way) cycle() bool {
	if w.bus.Left() == 0 {
		return false
	}
	if w.Idle() {
		w.Enter(w.chosen())
	}
	w.Cycle()
	return true
}

// chosen is what is entered at a boundary. All begins with a reset.
func (w way) chosen() uint8 {
	if w.Steps() == 0 {
		return api.ByReset
	}
	return w.bus.Choose(flags.Is(w.State().P, api.FlagI))
}

// done is how many accesses were done.
func (w way) done() int64 { return w.budget - w.bus.Left() }

// result is what came of it until now.
func (w way) result() api.Result {
	return api.Result{
		State:  w.State(),
		Steps:  w.Steps(),
		Now:    w.bus.Now(),
		Trace:  w.bus.Trace(),
		Ram:    w.bus.Ram(),
		Status: w.bus.Status(),
	}
}
