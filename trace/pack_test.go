package trace_test

import (
	"bytes"
	"fmt"
	"slices"
	"testing"

	"gannet/api"
	"gannet/machine"
	"gannet/trace"
)

// P36.2: each step, by hand.
func TestPack(t *testing.T) {
	at := func(stamps ...int64) []api.Access {
		var l []api.Access
		for _, stamp := range stamps {
			l = append(l, api.Access{Stamp: stamp})
		}
		return l
	}
	for _, c := range []struct {
		name string
		l    []api.Access
		want []byte
	}{
		{"nil", nil, nil}, {"empty", []api.Access{}, nil},
		{"at 0", at(0), []byte{0x40, 0, 0, 0, 0, 0, 0, 0, 0, 0, 0, 0, 0}},
		{"at 1", at(1), []byte{0x40, 0, 0, 0, 0, 0, 0, 0, 1, 0, 0, 0, 0}},
		{"at 3", at(3), []byte{0x00, 0, 0, 0, 0}}, {"at 6", at(6), []byte{0x10, 0, 0, 0, 0}},
		{"at 12", at(12), []byte{0x20, 0, 0, 0, 0}}, {"at 24", at(24), []byte{0x30, 0, 0, 0, 0}},
		{"at 25", at(25), []byte{0x40, 0, 0, 0, 0, 0, 0, 0, 25, 0, 0, 0, 0}},
		{"at the last one", at(latest), []byte{0x40, 0, 4, 0, 0, 0, 0, 0, 0, 0, 0, 0, 0}},
		{"each byte of a stamp", at(0x0003040506070809), []byte{0x40, 0, 3, 4, 5, 6, 7, 8, 9, 0, 0, 0, 0}},
		{"each byte of a place", []api.Access{{Stamp: 3, Addr: 0x123456, Data: 0x78}}, []byte{0x00, 0x56, 0x34, 0x12, 0x78}},
		{"the last place", []api.Access{{Stamp: 3, Addr: 1<<21 - 1, Data: 0xFF}}, []byte{0x00, 0xFF, 0xFF, 0x1F, 0xFF}},
		{"a kind that writes", []api.Access{{Stamp: 12, Kind: api.Store, Write: true}}, []byte{0x2C, 0, 0, 0, 0}},
		{"the last kind, writing", []api.Access{{Stamp: 24, Kind: 7, Write: true}}, []byte{0x3F, 0, 0, 0, 0}},
		{"the last kind, reading", []api.Access{{Stamp: 5, Kind: 7}}, []byte{0x47, 0, 0, 0, 0, 0, 0, 0, 5, 0, 0, 0, 0}},
		{"all steps", at(3, 6, 12, 24, 48), []byte{0x00, 0, 0, 0, 0, 0x00, 0, 0, 0, 0, 0x10, 0, 0, 0, 0, 0x20, 0, 0, 0, 0, 0x30, 0, 0, 0, 0}},
		{"the same stamp", at(3, 3), []byte{0x00, 0, 0, 0, 0, 0x40, 0, 0, 0, 0, 0, 0, 0, 3, 0, 0, 0, 0}},
		{"a stamp that falls", at(24, 12), []byte{0x30, 0, 0, 0, 0, 0x40, 0, 0, 0, 0, 0, 0, 0, 12, 0, 0, 0, 0}},
		{"a step from 0", at(0, 3), []byte{0x40, 0, 0, 0, 0, 0, 0, 0, 0, 0, 0, 0, 0, 0x00, 0, 0, 0, 0}},
		{"steps behind another one", at(100, 124, 127), []byte{0x40, 0, 0, 0, 0, 0, 0, 0, 100, 0, 0, 0, 0, 0x30, 0, 0, 0, 0, 0x00, 0, 0, 0, 0}},
		{"others", at(100, 109), []byte{0x40, 0, 0, 0, 0, 0, 0, 0, 100, 0, 0, 0, 0, 0x40, 0, 0, 0, 0, 0, 0, 0, 109, 0, 0, 0, 0}},
		{"up to the last one", at(latest-24, latest), []byte{0x40, 0, 3, 0xFF, 0xFF, 0xFF, 0xFF, 0xFF, 0xE8, 0, 0, 0, 0, 0x30, 0, 0, 0, 0}},
	} {
		if b, f := trace.Pack(c.l); !bytes.Equal(b, c.want) || f != (api.Fault{}) {
			t.Errorf("%s: % X, %v, not % X", c.name, b, f, c.want)
		}
		if l, f := trace.Unpack(c.want); !slices.Equal(l, c.l) || f != (api.Fault{}) {
			t.Errorf("%s: %v, %v, not %v", c.name, l, f, c.l)
		}
	}
}

// P36.2: each difference of stamps, from 0 and from others.
func TestPackSteps(t *testing.T) {
	for _, from := range []int64{0, 1, 1000, latest - 200} {
		for by := int64(-50); by <= 50; by++ {
			stamp := from + by
			if stamp < 0 {
				continue
			}
			l := []api.Access{{Stamp: stamp, Kind: 5, Write: true, Addr: 0x10203, Data: 0x99}}
			ahead := 0
			if from > 0 {
				l = append([]api.Access{{Stamp: from}}, l...)
				ahead = 13
			}
			step, ok := map[int64]byte{3: 0, 6: 1, 12: 2, 24: 3}[by]
			want := []byte{step<<4 | 13}
			if !ok {
				want = []byte{0x4D}
				for i := range 8 {
					want = append(want, byte(uint64(stamp)>>(56-8*i)))
				}
			}
			want = append(want, 0x03, 0x02, 0x01, 0x99)
			if b := packs(t, l); !bytes.Equal(b[ahead:], want) {
				t.Errorf("%d behind %d: % X, not % X", by, from, b[ahead:], want)
			}
		}
	}
}

// P36.2: of the first access that may not be packed its number is told.
func TestPackRefused(t *testing.T) {
	for _, a := range refused() {
		for ahead := range 4 {
			l := append(slices.Clone(packable()[:ahead]), a, api.Access{Stamp: -1}, api.Access{})
			if b, f := trace.Pack(l); len(b) != 0 || f != (api.Fault{Errno: api.ErrRange, At: ahead}) {
				t.Errorf("%v at %d: % X, %v", a, ahead, b, f)
			}
		}
	}
	if l := packable(); len(packs(t, l)) == 0 {
		t.Error("nothing is packed")
	}
}

// P36.3: what is no access, isn't whole, or would be packed otherwise, at its number.
func TestUnpackRefused(t *testing.T) {
	three := []byte{0x00, 1, 2, 3, 4}
	whole := func(first byte, stamp int64) []byte {
		b := []byte{first}
		for i := range 8 {
			b = append(b, byte(uint64(stamp)>>(56-8*i)))
		}
		return append(b, 0, 0, 0, 0)
	}
	for _, c := range []struct {
		name string
		b    []byte
		at   int
	}{
		{"a first byte alone", []byte{0x00}, 0}, {"a byte less", three[:4], 0}, {"a byte less, told whole", whole(0x40, 100)[:12], 0}, {"five of thirteen", whole(0x40, 100)[:5], 0},
		{"a byte more", slices.Concat(three, []byte{0x00}), 1}, {"the second one isn't whole", slices.Concat(three, three[:4]), 1}, {"the third one", slices.Concat(three, three, []byte{0x20, 0, 0}), 2},
		{"a step that there isn't", []byte{0x50, 0, 0, 0, 0}, 0}, {"longer", []byte{0x50, 0, 0, 0, 0, 0, 0, 0, 100, 0, 0, 0, 0}, 0}, {"the last one that there isn't", []byte{0xF0, 0, 0, 0, 0}, 0}, {"behind another one", slices.Concat(three, []byte{0x80, 0, 0, 0, 0}), 1},
		{"a place too far", []byte{0x00, 0, 0, 0x20, 0}, 0}, {"much too far", []byte{0x00, 0, 0, 0xFF, 0}, 0}, {"behind", slices.Concat(three, []byte{0x20, 0xFF, 0xFF, 0x20, 0}), 1},
		{"told whole: 3", whole(0x40, 3), 0}, {"told whole: 6", whole(0x40, 6), 0}, {"told whole: 12", whole(0x40, 12), 0}, {"told whole: 24", whole(0x40, 24), 0},
		{"told whole, behind", slices.Concat(whole(0x40, 100), whole(0x40, 106)), 1}, {"a stamp too late", whole(0x40, latest+1), 0}, {"one below 0", whole(0x40, -1), 0}, {"the least one", whole(0x40, -1<<63), 0}, {"below 0, a step back", whole(0x40, -3), 0},
		{"steps too late", slices.Concat(whole(0x40, latest), three), 1}, {"steps just too late", slices.Concat(whole(0x40, latest-23), []byte{0x30, 0, 0, 0, 0}), 1},
	} {
		if l, f := trace.Unpack(c.b); len(l) != 0 || f != (api.Fault{Errno: api.ErrForm, At: c.at}) {
			t.Errorf("%s: %v, %v", c.name, l, f)
		}
	}
	for _, b := range [][]byte{nil, {}, whole(0x40, 0), whole(0x40, latest), whole(0x4F, 100), slices.Concat(whole(0x40, latest-24), []byte{0x30, 0, 0, 0, 0}), {0x00, 0xFF, 0xFF, 0x1F, 0}} {
		if _, f := trace.Unpack(b); f != (api.Fault{}) {
			t.Errorf("% X: %v", b, f)
		}
	}
}

// P36.3: a row that is cut short has as many accesses as are whole, or is none.
func TestUnpackCut(t *testing.T) {
	x := chance(2)
	for range 40 {
		l := x.row(12)
		b := packs(t, l)
		ends := []int{0}
		for i := range l {
			ends = append(ends, len(packs(t, l[:i+1])))
		}
		for n := range len(b) + 1 {
			got, f := trace.Unpack(b[:n])
			if i := slices.Index(ends, n); i >= 0 {
				if !slices.Equal(got, l[:i]) || f != (api.Fault{}) {
					t.Errorf("%d of %d bytes: %v, %v", n, len(b), got, f)
				}
				continue
			}
			whole := 0
			for whole+1 < len(ends) && ends[whole+1] < n {
				whole++
			}
			if len(got) != 0 || f != (api.Fault{Errno: api.ErrForm, At: whole}) {
				t.Errorf("%d of %d bytes: %v, %v, not at %d", n, len(b), got, f, whole)
			}
		}
	}
}

// P36.3: bytes of all sorts: what is unpacked is packed as those bytes; else up to the fault they may be packed so.
func TestUnpackAny(t *testing.T) {
	x := chance(3)
	none := 0
	for range 4000 {
		b := slices.Clone(packs(t, x.row(5)))
		for range x.next(3) {
			if len(b) > 0 {
				b[x.next(len(b))] = byte(x.next(256))
			}
		}
		l, f := trace.Unpack(b)
		if f == (api.Fault{}) {
			if again, f := trace.Pack(l); !bytes.Equal(again, b) || f != (api.Fault{}) {
				t.Errorf("% X: %v, %v", b, l, f)
			}
			continue
		}
		none++
		if len(l) != 0 || f.Errno != api.ErrForm || f.At < 0 || f.At > len(b)/5 {
			t.Errorf("% X: %v, %v", b, l, f)
		}
		// What lies ahead of the fault is a row.
		ahead := 0
		for n := range len(b) {
			if l, f := trace.Unpack(b[:n]); f == (api.Fault{}) {
				ahead = max(ahead, len(l))
			}
		}
		if f.At != ahead {
			t.Errorf("% X: at %d, not %d", b, f.At, ahead)
		}
	}
	if none < 200 {
		t.Errorf("%d were none", none)
	}
}

// P36.5: a row is unpacked as it was packed.
func TestUnpackAgain(t *testing.T) {
	x := chance(4)
	rows := [][]api.Access{nil, packable()}
	for range 500 {
		rows = append(rows, x.row(30))
	}
	for _, l := range rows {
		if got, f := trace.Unpack(packs(t, l)); !slices.Equal(got, l) || f != (api.Fault{}) {
			t.Errorf("%v: %v, %v", l, got, f)
		}
	}
}

// P36.5: a row of a run is packed in five bytes each, but the first one.
func TestPackRun(t *testing.T) {
	rom := make([]byte, api.PageSize)
	// Slow, then fast, devices among what is read: TAM, CSH, LDA 0x0000, and what follows, over and over.
	copy(rom, []byte{0xA9, 0xFF, 0x53, 0x01, 0xAD, 0x00, 0x00, 0xD4, 0xAD, 0x00, 0x00, 0x54, 0x80, 0xF6})
	rom[0x1FFF] = 0xE0
	for _, budget := range []int64{0, 1, 2, 8, 100, 1000} {
		r, f := machine.Run(api.Script{Rom: rom, Budget: budget})
		if f != (api.Fault{}) || int64(len(r.Trace)) != budget {
			t.Fatalf("%v", f)
		}
		b := packs(t, r.Trace)
		if want := min(budget, 1)*8 + 5*budget; int64(len(b)) != want {
			t.Errorf("budget %d: %d bytes, not %d", budget, len(b), want)
		}
		if got, f := trace.Unpack(b); !slices.Equal(got, r.Trace) || f != (api.Fault{}) {
			t.Errorf("budget %d: %v", budget, f)
		}
		if !trace.Rising(r.Trace) {
			t.Errorf("budget %d: it doesn't rise", budget)
		}
	}
}

// P3: what is handed in stays, spare room, too; what is answered is the caller's.
func TestPackApart(t *testing.T) {
	x := chance(5)
	row, whole := roomy(append(x.row(20), packable()...))
	was := fmt.Sprint(whole)
	b := packs(t, row)
	again := packs(t, row)
	clear(b[:cap(b)])
	if changed(was, whole) || bytes.Equal(again, b) {
		t.Error("Pack: they share something")
	}
	room := append(slices.Clone(again), 0xAA, 0xBB)
	was = fmt.Sprint(room)
	l, _ := trace.Unpack(room[:len(again)])
	other, _ := trace.Unpack(room[:len(again)])
	clear(l[:cap(l)])
	if changed(was, room) || !slices.Equal(other, row) {
		t.Error("Unpack: they share something")
	}
}
