package machine

import "gannet/api"

// least is how many accesses a scout goes ahead at least.
const least = 64

// scout is a machine's way a second time, ahead of it, so that each access is known when it is done. (A bus tells all its accesses at once: to ask it behind each cycle would take ever longer.)
type scout struct {
	way
	seen []api.Access
}

// access is the access with that number, from 0 on. A scout goes on as far again as it was asked for, so that all accesses together are copied few times.
func (x *scout) access(n int64) api.Access {
	if n >= int64(len(x.seen)) {
		for x.done() < 2*n+least && x.cycle() {
		}
		x.seen = x.bus.Trace()
	}
	return x.seen[n]
}
