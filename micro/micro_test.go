package micro_test

import (
	"slices"
	"strconv"
	"strings"
	"testing"

	"gannet/api"
	"gannet/micro"
	"gannet/timing"
)

// row is a program, and the first bytes that have it.
type row struct{ program, bytes string }

// rows is all 256 bytes.
func rows() []row {
	return []row{
		// Implied.
		{"F... D..!", "0A 0B 18 1A 1B 2A 2B 33 38 3A 3B 4A 4B 58 5B 5C 62 63 6A 6B 78 7B 82 88 8A 8B 98 9A 9B A8 AA AB B8 BA BB C2 C8 CA CB D8 DB DC E2 E8 EA EB F4 F8 FB FC"},
		{"F... D... D..!", "02 22 42 54 D4"},
		{"F... D... Ps..", "48 5A DA"},
		{"F... D... Pf..", "08"},
		{"F... D... D... Uv.!", "28 68 7A FA"},
		{"F... D... D... Ul.. Uh.. D... D..!", "60"},
		{"F... D... D... Uf.. Ul.. Uh.. D..!", "40"},
		// Imm.
		{"F... O... Ph.. Pl.. Pf.. Vl.. Vh.. D..!", "00"},
		{"F... O..!", "89 A0 A2 A9 C0 C9 E0"},
		{"F... O..! LxT. D.T! SxT.", "09 29 49"},
		{"F... O..! LxT. D.T! SxT. D.D.", "69"},
		{"F... O..! D.D.", "E9"},
		{"F... O... D... D... D..!", "53"},
		{"F... O... D... D..!", "43 80"},
		{"F... O... D... Sp..", "03 13 23"},
		// Zp, ZpX, ZpY.
		{"F... O... D... Ss..", "64 74 84 85 86 94 95 96"},
		{"F... O... D... Lv.. D..! Sr..", "04 06 14 16 26 36 46 56 66 76 C6 D6 E6 F6"},
		{"F... O... D... Lv.. D... D..! Sr..", "07 17 27 37 47 57 67 77 87 97 A7 B7 C7 D7 E7 F7"},
		{"F... O... D... Lv.!", "24 34 A4 A5 A6 B4 B5 B6 C4 C5 D5 E4"},
		{"F... O... D... Lv.! LxT. D.T! SxT.", "05 15 25 35 45 55"},
		{"F... O... D... Lv.! LxT. D.T! SxT. D.D.", "65 75"},
		{"F... O... D... Lv.! D.D.", "E5 F5"},
		// Abs, AbsX, AbsY.
		{"F... O... O... D... Ss..", "8C 8D 8E 99 9C 9D 9E"},
		{"F... O... O... D... Lv.. D..! Sr..", "0C 0E 1C 1E 2E 3E 4E 5E 6E 7E CE DE EE FE"},
		{"F... O... O... D... Lv.!", "2C 3C AC AD AE B9 BC BD BE CC CD D9 DD EC"},
		{"F... O... O... D... Lv.! LxT. D.T! SxT.", "0D 19 1D 2D 39 3D 4D 59 5D"},
		{"F... O... O... D... Lv.! LxT. D.T! SxT. D.D.", "6D 79 7D"},
		{"F... O... O... D... Lv.! D.D.", "ED F9 FD"},
		// Ind, IndX, IndY.
		{"F... O... D... Ll.. Lh.. D... Ss..", "81 91 92"},
		{"F... O... D... Ll.. Lh.. D... Lv.!", "A1 B1 B2 C1 D1 D2"},
		{"F... O... D... Ll.. Lh.. D... Lv.! LxT. D.T! SxT.", "01 11 12 21 31 32 41 51 52"},
		{"F... O... D... Ll.. Lh.. D... Lv.! LxT. D.T! SxT. D.D.", "61 71 72"},
		{"F... O... D... Ll.. Lh.. D... Lv.! D.D.", "E1 F1 F2"},
		// TST.
		{"F... O... O... D... D... Lv.. D..!", "83 A3"},
		{"F... O... O... O... D... D... Lv.. D..!", "93 B3"},
		// Ways.
		{"F... O... O... D... Lv.. D... D.B. D.B!", "0F 1F 2F 3F 4F 5F 6F 7F 8F 9F AF BF CF DF EF FF"},
		{"F... O... D.B. D.B!", "10 30 50 70 90 B0 D0 F0"},
		{"F... O... D... PH.. PL.. D... D... D..!", "44"},
		{"F... O... O... D..!", "4C"},
		{"F... O... O... D... Ll.. Lh.. D..!", "6C 7C"},
		{"F... O... O... D... PH.. PL.. D..!", "20"},
		// Block.
		{"F... Py.. Pa.. Px.. O... O... O... O... O... O... D... D.N. LmN. D.N. D.N. SmN. D.N. D... Ux.. Ua.. Uy.. D... D..!", "73 C3 D3 E3 F3"},
	}
}

// programs is the program of each byte.
func programs(t *testing.T) [256]string {
	t.Helper()
	var all [256]string
	for _, r := range rows() {
		for _, digits := range strings.Fields(r.bytes) {
			b, err := strconv.ParseUint(digits, 16, 8)
			if err != nil || all[b] != "" {
				t.Fatalf("%s stands there twice, or is no byte", digits)
			}
			all[b] = r.program
		}
	}
	return all
}

// ops is the ops of a program that is written without fault, read by other means.
func ops(program string) []micro.Op {
	var l []micro.Op
	if program == "" {
		return nil
	}
	for _, part := range strings.Split(program, " ") {
		op := micro.Op{Access: part[0], What: part[1], When: part[2], Act: part[3:] == "!"}
		if op.What == '.' {
			op.What = 0
		}
		if op.When == '.' {
			op.When = 0
		}
		l = append(l, op)
	}
	return l
}

// P30.1: the program of each byte, op by op, and as a text.
func TestOf(t *testing.T) {
	for b, want := range programs(t) {
		got := micro.Of(byte(b))
		if micro.Text(got) != want {
			t.Errorf("%#x: %s, not %s", b, micro.Text(got), want)
		}
		if !slices.Equal(got, ops(want)) {
			t.Errorf("%#x: %v, not %v", b, got, ops(want))
		}
	}
}

// P30.1, P30.3: points stand for 0 in an Op.
func TestOfByHand(t *testing.T) {
	want := []micro.Op{
		{Access: 'F'},
		{Access: 'O', Act: true},
		{Access: 'L', What: 'x', When: 'T'},
		{Access: 'D', When: 'T', Act: true},
		{Access: 'S', What: 'x', When: 'T'},
		{Access: 'D', When: 'D'},
	}
	if got := micro.Of(0x69); !slices.Equal(got, want) {
		t.Errorf("0x69: %v, not %v", got, want)
	}
	want = []micro.Op{{Access: 'F'}, {Access: 'O'}, {Access: 'D', When: 'B'}, {Access: 'D', When: 'B', Act: true}}
	if got := micro.Of(0xF0); !slices.Equal(got, want) {
		t.Errorf("0xF0: %v, not %v", got, want)
	}
}

// P30.2: the program of each entry, and of kinds that there are none.
func TestEntry(t *testing.T) {
	for kind := range 256 {
		want := ""
		switch kind {
		case api.ByReset:
			want = "D... D... Ds.. Ds.. Ds.. Vl.. Vh.. D..!"
		case api.ByNmi, api.ByTimer, api.ByIrq1, api.ByIrq2:
			want = "D... D... Ph.. Pl.. Pq.. Vl.. Vh.. D..!"
		}
		got := micro.Entry(uint8(kind))
		if micro.Text(got) != want || !slices.Equal(got, ops(want)) {
			t.Errorf("%d: %s, not %s", kind, micro.Text(got), want)
		}
	}
}

// P30.3: four bytes each, a blank between each two; ? of an access that is none; all else as it is.
func TestText(t *testing.T) {
	for _, c := range []struct {
		l    []micro.Op
		want string
	}{
		{nil, ""},
		{[]micro.Op{}, ""},
		{[]micro.Op{{}}, "?..."},
		{[]micro.Op{{Access: 'F'}}, "F..."},
		{[]micro.Op{{Access: 'V', What: 'l', When: 'N', Act: true}}, "VlN!"},
		{[]micro.Op{{Access: 'O'}, {Access: 'D', When: 'T'}, {Access: 'P', What: 's'}}, "O... D.T. Ps.."},
		{[]micro.Op{{Access: 'f', What: 'F', When: 'f'}}, "?Ff."},
		{[]micro.Op{{Access: 'Z', Act: true}, {Access: '.'}, {Access: ' '}}, "?..! ?... ?..."},
		{[]micro.Op{{Access: 255, What: 255, When: 254}}, "?\xFF\xFE."},
		{[]micro.Op{{Access: 'L', What: ' ', When: ' '}}, "L  ."},
		{[]micro.Op{{Access: 'L', What: '!', When: '!'}}, "L!!."},
		{[]micro.Op{{Access: 'L', What: '.', When: '.'}}, "L..."},
		{[]micro.Op{{Access: 'L', What: 1, When: '\n', Act: true}}, "L\x01\n!"},
	} {
		if got := micro.Text(c.l); got != c.want {
			t.Errorf("%v: %q, not %q", c.l, got, c.want)
		}
	}
	for b := range 256 {
		want := "?..."
		if strings.IndexByte("FODLSPUV", byte(b)) >= 0 {
			want = string(rune(b)) + "..."
		}
		if got := micro.Text([]micro.Op{{Access: byte(b)}}); got != want {
			t.Errorf("%#x: %q, not %q", b, got, want)
		}
	}
}

// P30.3: what is written is read again.
func TestRead(t *testing.T) {
	for b, program := range programs(t) {
		got, f := micro.Read(program)
		if f != (api.Fault{}) || !slices.Equal(got, micro.Of(byte(b))) {
			t.Errorf("%#x: %v, %v", b, got, f)
		}
	}
	for kind := range uint8(8) {
		want := micro.Entry(kind)
		if got, f := micro.Read(micro.Text(want)); f != (api.Fault{}) || !slices.Equal(got, want) {
			t.Errorf("entry %d: %v, %v", kind, got, f)
		}
	}
	for _, s := range []string{"", "F...", "VlN!", "LxT. D.T! SxT.", "F!.. O?B! D\xFFD. L\x01N. SS.. P\t.. UU.! V...", "O... O... O..."} {
		got, f := micro.Read(s)
		if f != (api.Fault{}) || !slices.Equal(got, ops(s)) || micro.Text(got) != s {
			t.Errorf("%q: %v, %v", s, got, f)
		}
	}
}

// P30.3: each of an op's four bytes, of all that there are.
func TestReadEachByte(t *testing.T) {
	for at, may := range []string{"FODLSPUV", "", ".TDBN", "!."} {
		for b := range 256 {
			s := []byte("L..!")
			s[at] = byte(b)
			good := strings.IndexByte(may, byte(b)) >= 0
			if at == 1 {
				good = b != 0 && b != ' '
			}
			got, f := micro.Read(string(s))
			want, fault := []micro.Op(nil), api.Fault{Errno: api.ErrForm}
			if good {
				want, fault = []micro.Op{{Access: s[0], What: s[1], When: s[2], Act: s[3] == '!'}}, api.Fault{}
				if want[0].What == '.' {
					want[0].What = 0
				}
				if want[0].When == '.' {
					want[0].When = 0
				}
			}
			if f != fault || !slices.Equal(got, want) {
				t.Errorf("%q: %v, %v, not %v, %v", s, got, f, want, fault)
			}
		}
	}
}

// P30.3: what is no program, and where the first part begins that is no op.
func TestReadFaults(t *testing.T) {
	for _, c := range []struct {
		s  string
		at int
	}{
		{" ", 0},
		{"  ", 0},
		{"F", 0},
		{"F..", 0},
		{"F....", 0},
		{"F...O...", 0},
		{"....", 0},
		{"?...", 0},
		{"f...", 0},
		{"F\x00..", 0},
		{"F..\x00", 0},
		{"F.\x00.", 0},
		{"F..?", 0},
		{"F.t.", 0},
		{"F.F.", 0},
		{"F.!.", 0},
		{"\x00...", 0},
		{" F...", 0},
		{"F... ", 5},
		{"F...  ", 5},
		{"F...  O...", 5},
		{"F... O... ", 10},
		{"F... O...  D...", 10},
		{"F...\tO...", 0},
		{"F...\nO...", 0},
		{"F... O...\n", 5},
		{"F... O...\tD...", 5},
		{"F... O... D..", 10},
		{"F... O... D.... L...", 10},
		{"F... o... D.... L...", 5},
		{"F... O... D. . L...", 10},
		{"F... O .. D...", 5},
		{"F... O..\u00a0", 5},
		{"\u00a0F...", 0},
	} {
		got, f := micro.Read(c.s)
		if len(got) != 0 || f != (api.Fault{Errno: api.ErrForm, At: c.at}) {
			t.Errorf("%q: %v, %v, not at %d", c.s, got, f, c.at)
		}
	}
}

// P30.3: long programs are read, and faults far behind found.
func TestReadLong(t *testing.T) {
	s := strings.Repeat("LxT! ", 100000) + "D..."
	got, f := micro.Read(s)
	if f != (api.Fault{}) || len(got) != 100001 || micro.Text(got) != s {
		t.Errorf("%d ops, %v", len(got), f)
	}
	if got, f := micro.Read(s + " x"); len(got) != 0 || f != (api.Fault{Errno: api.ErrForm, At: 500005}) {
		t.Errorf("%d ops, %v", len(got), f)
	}
	if got, f := micro.Read(strings.Repeat(".", 1000000)); len(got) != 0 || f != (api.Fault{Errno: api.ErrForm}) {
		t.Errorf("%d ops, %v", len(got), f)
	}
}

// P30.4: the kind of each letter, and Dummy of no letter.
func TestKind(t *testing.T) {
	kinds := map[byte]uint8{'F': api.Fetch, 'O': api.Operand, 'D': api.Dummy, 'L': api.Load, 'S': api.Store, 'P': api.Push, 'U': api.Pull, 'V': api.Vector}
	for b := range 256 {
		want, ok := kinds[byte(b)]
		if !ok {
			want = api.Dummy
		}
		for _, o := range []micro.Op{{Access: byte(b)}, {Access: byte(b), What: 'L', When: 'N', Act: true}} {
			if got := o.Kind(); got != want {
				t.Errorf("%v: %d, not %d", o, got, want)
			}
		}
	}
}

// P30.4: ops that are done for each byte aren't counted.
func TestSize(t *testing.T) {
	for _, c := range []struct {
		s    string
		want int
	}{
		{"", 0}, {"F...", 1}, {"F... D..!", 2}, {"D.N.", 0}, {"D.N! LmN. SmN.", 0}, {"D.N. D.T. D.D. D.B. D...", 4}, {"LN.. Dn..", 2}, {"LNN!", 0},
	} {
		l, _ := micro.Read(c.s)
		if got := micro.Size(l); got != c.want {
			t.Errorf("%s: %d, not %d", c.s, got, c.want)
		}
	}
	if micro.Size(nil) != 0 || micro.Size([]micro.Op{{Access: 'N', What: 'N', When: 'n'}, {When: 1}}) != 2 {
		t.Error("what isn't N is counted")
	}
	for b := range 256 {
		if got, want := micro.Size(micro.Of(byte(b))), timing.Count(byte(b), timing.Facts{T: true, D: true, Taken: true}); got != want {
			t.Errorf("%#x: %d, not %d", b, got, want)
		}
	}
}

// does is the kinds of a program's ops that are done.
func does(l []micro.Op, f timing.Facts) []uint8 {
	var kinds, loop []uint8
	over := func() {
		for range f.Bytes {
			kinds = append(kinds, loop...)
		}
		loop = nil
	}
	for _, o := range l {
		if o.When == 'N' {
			loop = append(loop, o.Kind())
			continue
		}
		over()
		if o.When == 0 || o.When == 'T' && f.T || o.When == 'D' && f.D || o.When == 'B' && f.Taken {
			kinds = append(kinds, o.Kind())
		}
	}
	over()
	return kinds
}

// P30.5: what a program does by facts has the kinds that timing.List tells; so has an entry's.
func TestKindsAreListed(t *testing.T) {
	for b := range 256 {
		for i := range 32 {
			f := timing.Facts{T: i&1 != 0, D: i&2 != 0, Taken: i&4 != 0, Bytes: i / 8}
			if got, want := does(micro.Of(byte(b)), f), timing.List(byte(b), f); !slices.Equal(got, want) {
				t.Errorf("%#x, %v: %s, not %s", b, f, timing.Text(got), timing.Text(want))
			}
		}
		if got, want := does(micro.Entry(uint8(b)), timing.Facts{}), timing.Entry(uint8(b)); !slices.Equal(got, want) {
			t.Errorf("entry %d: %s, not %s", b, timing.Text(got), timing.Text(want))
		}
	}
}

// P3, P5: what is answered is the caller's, what is handed in stays as it is.
func TestStays(t *testing.T) {
	for b, want := range programs(t) {
		l := micro.Of(byte(b))
		clear(l[:cap(l)])
		if got := micro.Text(micro.Of(byte(b))); got != want {
			t.Errorf("%#x: %s, not %s", b, got, want)
		}
		e := micro.Entry(uint8(b))
		was := slices.Clone(e)
		clear(e[:cap(e)])
		if got := micro.Entry(uint8(b)); !slices.Equal(got, was) {
			t.Errorf("entry %d: %v, not %v", b, got, was)
		}
	}
	held := []micro.Op{{Access: 'x', When: 'N'}, {}, {What: '.', When: '.'}, {Access: 'F', Act: true}}
	was := slices.Clone(held)
	micro.Text(held[:3])
	micro.Size(held[:2])
	if !slices.Equal(held, was) {
		t.Errorf("handed in: %v", held)
	}
}

// Example of the chapter (P30.1).
func TestExample(t *testing.T) {
	if got := micro.Text(micro.Of(0x69)); got != "F... O..! LxT. D.T! SxT. D.D." {
		t.Errorf("0x69: %s", got)
	}
}
