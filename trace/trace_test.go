package trace_test

import (
	"fmt"
	"slices"
	"testing"

	"gannet/api"
	"gannet/trace"
)

// P36.4: the first place at which rows aren't alike, whatever isn't.
func TestOther(t *testing.T) {
	a := api.Access{Stamp: 12, Addr: 0x1234, Kind: api.Load, Data: 5}
	with := func(change func(a *api.Access)) []api.Access {
		b := a
		change(&b)
		return []api.Access{a, b, a}
	}
	three := []api.Access{a, a, a}
	for _, c := range []struct {
		name string
		a, b []api.Access
		want int
	}{
		{"none", nil, nil, -1}, {"none, empty", nil, []api.Access{}, -1}, {"alike", three, slices.Clone(three), -1}, {"one", three[:1], three[1:2], -1},
		{"none, and one", nil, three[:1], 0}, {"none, and three", nil, three, 0}, {"one is longer", three[:2], three, 2}, {"much longer", three[:1], three, 1},
		{"the stamp", three, with(func(a *api.Access) { a.Stamp++ }), 1}, {"the place", three, with(func(a *api.Access) { a.Addr++ }), 1},
		{"the place, modulo 2^21", three, with(func(a *api.Access) { a.Addr += 1 << 21 }), 1}, {"the kind", three, with(func(a *api.Access) { a.Kind++ }), 1},
		{"whether it writes", three, with(func(a *api.Access) { a.Write = true }), 1}, {"the byte", three, with(func(a *api.Access) { a.Data++ }), 1},
		{"the first one of several", []api.Access{a, {}, {}}, three, 1}, {"the first one", []api.Access{{}, a, a}, three, 0}, {"the last one", []api.Access{a, a, {}}, three, 2},
		{"unlike ahead of the end", []api.Access{{}, a}, three, 0},
	} {
		if got := trace.Other(c.a, c.b); got != c.want {
			t.Errorf("%s: %d, not %d", c.name, got, c.want)
		}
		if got := trace.Other(c.b, c.a); got != c.want {
			t.Errorf("%s, the other way round: %d, not %d", c.name, got, c.want)
		}
	}
}

// P36.4: so many of each kind below 8; others aren't counted.
func TestKinds(t *testing.T) {
	var l []api.Access
	var want [8]int
	for kind := range 256 {
		for n := range kind%3 + kind + 1 {
			l = append(l, api.Access{Stamp: int64(n), Kind: uint8(kind), Write: n%2 == 0})
		}
		if kind < 8 {
			want[kind] = kind%3 + kind + 1
		}
	}
	if got := trace.Kinds(l); got != want {
		t.Errorf("%v, not %v", got, want)
	}
	if got := trace.Kinds(nil); got != [8]int{} {
		t.Errorf("%v", got)
	}
	if got := trace.Kinds([]api.Access{{Kind: api.Fetch}, {Kind: api.Vector}, {Kind: 8}, {Kind: 255}, {Kind: api.Fetch}}); got != [8]int{0: 2, 7: 1} {
		t.Errorf("%v", got)
	}
}

// edges is the first and the last place of all parts.
func edges() []struct {
	addr  uint32
	where uint8
} {
	return []struct {
		addr  uint32
		where uint8
	}{
		{0, api.InRom}, {0x0FFFFF, api.InRom}, {0x100000, api.InOpen}, {0x1EFFFF, api.InOpen}, {0x1F0000, api.InRam}, {0x1F7FFF, api.InRam}, {0x1F8000, api.InOpen}, {0x1FDFFF, api.InOpen},
		{0x1FE000, api.InVdc}, {0x1FE3FF, api.InVdc}, {0x1FE400, api.InVce}, {0x1FE7FF, api.InVce}, {0x1FE800, api.InPsg}, {0x1FEBFF, api.InPsg}, {0x1FEC00, api.InTimer}, {0x1FEFFF, api.InTimer},
		{0x1FF000, api.InPort}, {0x1FF3FF, api.InPort}, {0x1FF400, api.InIrq}, {0x1FF7FF, api.InIrq}, {0x1FF800, api.InOpen}, {0x1FFFFF, api.InOpen},
		// Modulo 2^21, as all places are.
		{0x200000, api.InRom}, {0x3FE000, api.InVdc}, {0xFFFFFFFF, api.InOpen},
	}
}

// P36.4: so many at each place, and which ones, in order, whatever else they are.
func TestPlaces(t *testing.T) {
	var l []api.Access
	var want [9]int
	those := map[uint8][]api.Access{}
	for n := range 3 {
		for i, e := range edges() {
			a := api.Access{Stamp: int64(100*n - i), Addr: e.addr, Kind: uint8(i), Write: (n+i)%2 == 0, Data: byte(i)}
			l = append(l, a)
			want[e.where]++
			those[e.where] = append(those[e.where], a)
		}
	}
	if got := trace.Places(l); got != want {
		t.Errorf("%v, not %v", got, want)
	}
	for where := range 256 {
		if got := trace.Of(l, uint8(where)); !slices.Equal(got, those[uint8(where)]) {
			t.Errorf("%d: %v, not %v", where, got, those[uint8(where)])
		}
	}
	if got := trace.Places(nil); got != [9]int{} {
		t.Errorf("%v", got)
	}
	if got := trace.Of(nil, api.InRom); len(got) != 0 {
		t.Errorf("%v", got)
	}
}

// P36.4: the last one that writes, at an address modulo 2^21.
func TestLast(t *testing.T) {
	l := []api.Access{
		{Addr: 5, Write: true, Data: 1}, {Addr: 6, Write: true, Data: 2}, {Addr: 5, Write: true, Data: 3}, {Addr: 5, Data: 4}, {Addr: 7, Data: 5},
		{Addr: 1<<21 + 8, Write: true, Data: 6}, {Addr: 0x1FFFFF, Write: true, Data: 7}, {Addr: 9, Write: true}, {Addr: 10, Write: true, Data: 8}, {Addr: 10 + 3<<21, Write: true, Data: 9},
		{Addr: 11, Write: true, Data: 10, Kind: api.Push}, {Addr: 11, Write: true, Data: 11, Kind: api.Fetch, Stamp: -5},
	}
	for _, c := range []struct {
		addr uint32
		want byte
		ok   bool
	}{
		{5, 3, true}, {6, 2, true}, {7, 0, false}, {8, 6, true}, {9, 0, true}, {10, 9, true}, {11, 11, true}, {12, 0, false}, {0, 0, false},
		{1<<21 + 5, 3, true}, {3<<21 + 6, 2, true}, {1<<21 + 7, 0, false}, {1<<21 + 8, 6, true}, {5<<21 + 8, 6, true}, {0x1FFFFF, 7, true}, {0xFFFFFFFF, 7, true},
	} {
		if b, ok := trace.Last(l, c.addr); b != c.want || ok != c.ok {
			t.Errorf("%X: %d, %v, not %d, %v", c.addr, b, ok, c.want, c.ok)
		}
	}
	if b, ok := trace.Last(nil, 5); b != 0 || ok {
		t.Errorf("%d, %v", b, ok)
	}
}

// P36.4: each step, and no other one; the first stamp isn't below 0.
func TestRising(t *testing.T) {
	const most = 1<<63 - 1
	for _, c := range []struct {
		stamps []int64
		want   bool
	}{
		{nil, true}, {[]int64{}, true}, {[]int64{0}, true}, {[]int64{1}, true}, {[]int64{5000}, true}, {[]int64{most}, true}, {[]int64{-1}, false}, {[]int64{-3}, false}, {[]int64{-1 << 63}, false},
		{[]int64{0, 3}, true}, {[]int64{0, 6}, true}, {[]int64{0, 12}, true}, {[]int64{0, 24}, true}, {[]int64{7, 10, 16, 28, 52, 55}, true},
		{[]int64{-3, 0}, false}, {[]int64{-1, 2}, false}, {[]int64{-24, 0, 3}, false}, {[]int64{0, 0}, false}, {[]int64{3, 0}, false}, {[]int64{24, 12}, false}, {[]int64{0, 3, 3}, false}, {[]int64{0, 3, 7, 10}, false}, {[]int64{0, 12, 24, 60}, false},
		{[]int64{most - 3, most}, true}, {[]int64{most - 24, most}, true}, {[]int64{most - 2, -1 << 63}, false}, {[]int64{most, -1<<63 + 2}, false}, {[]int64{most - 5, -1 << 63}, false}, {[]int64{most, -1<<63 + 23}, false},
	} {
		var l []api.Access
		for _, stamp := range c.stamps {
			l = append(l, api.Access{Stamp: stamp, Addr: 1 << 31, Kind: 200})
		}
		if got := trace.Rising(l); got != c.want {
			t.Errorf("%v: %v", c.stamps, got)
		}
	}
	for by := int64(-30); by <= 60; by++ {
		want := by == 3 || by == 6 || by == 12 || by == 24
		for _, l := range [][]api.Access{{{Stamp: 100}, {Stamp: 100 + by}}, {{Stamp: 97}, {Stamp: 100}, {Stamp: 100 + by}}, {{Stamp: 100}, {Stamp: 100 + by}, {Stamp: 103 + by}}} {
			if got := trace.Rising(l); got != want {
				t.Errorf("%d: %v", by, got)
			}
		}
	}
}

// P36.4: rows of all sorts, held against what is counted one by one.
func TestCounts(t *testing.T) {
	x := chance(6)
	for range 300 {
		l := x.any(60)
		var kinds, places int
		for _, n := range trace.Kinds(l) {
			kinds += n
		}
		all := 0
		counts := trace.Places(l)
		for where, n := range counts {
			places += n
			if those := trace.Of(l, uint8(where)); len(those) != n {
				t.Errorf("%d at %d, not %d", n, where, len(those))
			}
		}
		last := map[uint32]byte{}
		for _, a := range l {
			if a.Kind < 8 {
				all++
			}
			if a.Write {
				last[a.Addr%(1<<21)] = a.Data
			}
		}
		if kinds != all || places != len(l) {
			t.Errorf("%d kinds, %d places, of %d", kinds, places, len(l))
		}
		for _, a := range l {
			want, known := last[a.Addr%(1<<21)]
			if b, ok := trace.Last(l, a.Addr); b != want || ok != known {
				t.Errorf("%X: %d, %v, not %d, %v", a.Addr, b, ok, want, known)
			}
		}
		if other := x.any(60); trace.Other(l, other) == -1 && !slices.Equal(l, other) || trace.Other(l, slices.Clone(l)) != -1 {
			t.Errorf("%v and %v", l, other)
		}
	}
}

// P3: what is handed in stays, spare room, too; what is answered is the caller's.
func TestApart(t *testing.T) {
	x := chance(7)
	row, whole := roomy(append(x.any(60), api.Access{Addr: 5}))
	was := fmt.Sprint(row, whole)
	trace.Other(row, row)
	trace.Kinds(row)
	trace.Places(row)
	trace.Last(row, 5)
	trace.Rising(row)
	for where := range uint8(10) {
		l := trace.Of(row, where)
		told := fmt.Sprint(trace.Of(row, where))
		clear(l[:cap(l)])
		if changed(told, trace.Of(row, where)) {
			t.Errorf("%d: they share something", where)
		}
	}
	if changed(was, row, whole) {
		t.Error("the row was changed")
	}
}
