package cart_test

import (
	"bytes"
	"math"
	"slices"
	"testing"

	"gannet/api"
	"gannet/cart"
)

const page = 8192

// lengths are lengths of images, and of bytes that are none.
var lengths = map[int]api.Errno{
	0: api.ErrPages, 1: api.ErrPages, page - 1: api.ErrPages, page: api.OK, page + 1: api.ErrPages,
	2*page - 1: api.ErrPages, 2 * page: api.OK, 3*page + 4096: api.ErrPages, 127 * page: api.OK,
	128*page - 1: api.ErrPages, 128 * page: api.OK, 128*page + 1: api.ErrPages, 129 * page: api.ErrPages, 256 * page: api.ErrPages,
}

// counted is so many bytes, each page and each place of which is told by its bytes; none is 0.
func counted(n int) []byte {
	b := make([]byte, n)
	for i := range b {
		b[i] = byte(1 + (i/page*7+i%page)%255)
	}
	return b
}

// P4.1: an image has from 1 to 128 whole pages.
func TestCheck(t *testing.T) {
	for n, want := range lengths {
		if got := cart.Check(make([]byte, n)); got != want {
			t.Errorf("Check of %d bytes: %d", n, got)
		}
	}
	if cart.Check(nil) != api.ErrPages {
		t.Error("Check(nil)")
	}
}

// P4.2: an image of 0, of so many pages.
func TestMake(t *testing.T) {
	for _, l := range [][]api.Piece{nil, {}, {{}}, {{At: page}}} {
		for _, pages := range []int{1, 2, 64, 127, 128} {
			rom, f := cart.Make(pages, l)
			if f != (api.Fault{}) || !bytes.Equal(rom, make([]byte, pages*page)) {
				t.Errorf("Make(%d, %v): %d bytes, %v", pages, l, len(rom), f)
			}
		}
	}
}

// P4.2: other numbers of pages are ErrPages, whatever the pieces are; the place is 0 (P2).
func TestMakePages(t *testing.T) {
	for _, pages := range []int{math.MinInt, -128, -1, 0, 129, 256, 1 << 32, math.MaxInt} {
		for _, l := range [][]api.Piece{nil, {{At: 0, Bytes: []byte{1}}}, {{At: 0}, {At: -1}}} {
			rom, f := cart.Make(pages, l)
			if len(rom) != 0 || f != (api.Fault{Errno: api.ErrPages}) {
				t.Errorf("Make(%d, %v): %d bytes, %v", pages, l, len(rom), f)
			}
		}
	}
}

// P4.2: pieces are laid in, one behind the other: a later one lies over those ahead of it.
func TestMakeLays(t *testing.T) {
	l := []api.Piece{
		{At: 0, Bytes: []byte{1, 2, 3, 4, 5}},
		{At: 2, Bytes: []byte{0, 9}},
		{At: 3, Bytes: []byte{8, 8, 8}},
		{At: 2*page - 3, Bytes: []byte{6, 7, 8}},
		{At: 2 * page},
		{At: 2 * page, Bytes: []byte{}},
		{At: page - 1, Bytes: []byte{1, 1}},
		{At: 1, Bytes: nil},
	}
	rom, f := cart.Make(2, l)
	want := make([]byte, 2*page)
	copy(want, []byte{1, 2, 0, 8, 8, 8})
	copy(want[page-1:], []byte{1, 1})
	copy(want[2*page-3:], []byte{6, 7, 8})
	if f != (api.Fault{}) || !bytes.Equal(rom, want) {
		t.Errorf("pieces: %v, %v", rom[:8], f)
	}
	slices.Reverse(l)
	rom, _ = cart.Make(2, l)
	if !bytes.Equal(rom[:6], []byte{1, 2, 3, 4, 5, 8}) {
		t.Errorf("pieces, the other way round: %v", rom[:6])
	}
}

// P4.2: a piece may be as long as the image.
func TestMakeWhole(t *testing.T) {
	for _, pages := range []int{1, 3, 128} {
		whole := counted(pages * page)
		rom, f := cart.Make(pages, []api.Piece{{At: 0, Bytes: whole}})
		if f != (api.Fault{}) || !bytes.Equal(rom, whole) {
			t.Errorf("a piece of %d pages: %v", pages, f)
		}
	}
}

// P4.2: the first piece that doesn't lie within the image is told by its number.
func TestMakeRange(t *testing.T) {
	good := []api.Piece{{At: 0, Bytes: []byte{1}}, {At: page}, {At: page - 1, Bytes: []byte{1}}}
	for _, bad := range []api.Piece{
		{At: page, Bytes: []byte{1}},
		{At: page - 1, Bytes: []byte{1, 2}},
		{At: page - 1, Bytes: []byte{0, 0}},
		{At: page + 1},
		{At: page + 1, Bytes: []byte{}},
		{At: -1},
		{At: -1, Bytes: []byte{1}},
		{At: -1, Bytes: []byte{1, 2}},
		{At: 0, Bytes: make([]byte, page+1)},
		{At: math.MaxInt, Bytes: []byte{1}},
		{At: math.MaxInt},
		{At: math.MinInt, Bytes: []byte{1, 2, 3}},
		{At: math.MinInt},
	} {
		for n := range len(good) + 1 {
			l := slices.Insert(slices.Clone(good), n, bad)
			l = append(l, api.Piece{At: -5})
			rom, f := cart.Make(1, l)
			if len(rom) != 0 || f != (api.Fault{Errno: api.ErrRange, At: n}) {
				t.Errorf("a piece at %d of %d bytes, number %d: %v", bad.At, len(bad.Bytes), n, f)
			}
		}
	}
	if _, f := cart.Make(2, []api.Piece{{At: page, Bytes: []byte{1}}}); f != (api.Fault{}) {
		t.Error("a piece of the second page")
	}
}

// images are images with pieces at their ends, and in the middle, of 0 alone, and of no 0.
func images() map[string][]byte {
	ends := make([]byte, 2*page)
	ends[0], ends[2*page-1] = 1, 2
	middle := make([]byte, page)
	copy(middle[100:], []byte{1, 0, 2, 3, 0, 0, 255, 0, 4, 5, 6})
	across := make([]byte, 3*page)
	copy(across[page-2:], []byte{1, 2, 3, 4, 5})
	second := make([]byte, 128*page)
	for i := 1; i < len(second); i += 2 {
		second[i] = byte(i/2)%255 + 1
	}
	return map[string][]byte{
		"ends": ends, "middle": middle, "across": across, "second": second,
		"zero": make([]byte, page), "zeros": make([]byte, 128*page), "full": counted(page), "all full": counted(128 * page),
	}
}

// runs is the pieces of an image, byte by byte.
func runs(rom []byte) []api.Piece {
	var l []api.Piece
	for i, b := range rom {
		switch {
		case b == 0:
		case i > 0 && rom[i-1] != 0:
			l[len(l)-1].Bytes = append(l[len(l)-1].Bytes, b)
		default:
			l = append(l, api.Piece{At: i, Bytes: []byte{b}})
		}
	}
	return l
}

// alike tells whether two lists of pieces are alike.
func alike(a, b []api.Piece) bool {
	return slices.EqualFunc(a, b, func(p, q api.Piece) bool { return p.At == q.At && bytes.Equal(p.Bytes, q.Bytes) })
}

// P4.3: as few pieces as may be, rising, none empty, of all bytes that aren't 0, and no others.
func TestPieces(t *testing.T) {
	for name, rom := range images() {
		got, e := cart.Pieces(rom)
		if e != api.OK || !alike(got, runs(rom)) {
			t.Errorf("%s: %d pieces, %d", name, len(got), e)
		}
	}
	got, _ := cart.Pieces(images()["ends"])
	if !alike(got, []api.Piece{{At: 0, Bytes: []byte{1}}, {At: 2*page - 1, Bytes: []byte{2}}}) {
		t.Errorf("both ends: %v", got)
	}
	if got, _ = cart.Pieces(images()["zeros"]); len(got) != 0 {
		t.Errorf("of 0 alone: %d pieces", len(got))
	}
	if got, _ = cart.Pieces(images()["all full"]); len(got) != 1 || got[0].At != 0 || len(got[0].Bytes) != 128*page {
		t.Errorf("of no 0: %d pieces", len(got))
	}
}

// P4.3: of bytes that are no image ErrPages, and no pieces (P2).
func TestPiecesErrors(t *testing.T) {
	for n, want := range lengths {
		got, e := cart.Pieces(counted(n))
		if e != want || e != api.OK && len(got) != 0 {
			t.Errorf("Pieces of %d bytes: %d, %d", n, len(got), e)
		}
	}
	if got, e := cart.Pieces(nil); e != api.ErrPages || len(got) != 0 {
		t.Error("Pieces(nil)")
	}
}

// P4.6: an image is made of its pieces again.
func TestMadeAgain(t *testing.T) {
	for name, rom := range images() {
		l, _ := cart.Pieces(rom)
		got, f := cart.Make(len(rom)/page, l)
		if f != (api.Fault{}) || !bytes.Equal(got, rom) {
			t.Errorf("%s: %v", name, f)
		}
	}
}

// P4.4: the byte at an address is that of its bank's page; 255 elsewhere.
func TestRead(t *testing.T) {
	for _, pages := range []int{1, 2, 127, 128} {
		rom := counted(pages * page)
		for bank := range uint32(256) {
			for _, off := range []uint32{0, 1, 4095, 8190, 8191} {
				a, want := bank*page+off, byte(255)
				if int(bank) < pages {
					want = rom[a]
				}
				for _, more := range []uint32{0, 1 << 21, 1 << 30, math.MaxUint32 - 1<<21 + 1} {
					if got := cart.Read(rom, a+more); got != want {
						t.Errorf("Read of %d pages at %#x: %d", pages, a+more, got)
					}
				}
			}
		}
	}
}

// P4.4: of bytes that are no image what lies there, or 255.
func TestReadOfNoImage(t *testing.T) {
	for _, n := range []int{0, 1, 100, page - 1, page + 1, 128*page + 1, 129 * page, 256 * page} {
		rom := counted(n)
		for _, a := range []uint32{0, 1, 99, 100, page - 1, page, page + 1, 128*page - 1, 128 * page, 248 * page, 256*page - 1} {
			want := byte(255)
			if int(a) < n && a < 128*page {
				want = rom[a]
			}
			if got := cart.Read(rom, a); got != want {
				t.Errorf("Read of %d bytes at %#x: %d", n, a, got)
			}
		}
	}
	if cart.Read(nil, 0) != 255 || cart.Read(nil, math.MaxUint32) != 255 {
		t.Error("Read(nil)")
	}
}

// P4.4: a word of the first page: its low byte is there, its high one behind it; behind the last place is the first one.
func TestWord(t *testing.T) {
	rom := counted(2 * page)
	for at := range 1 << 16 {
		want := uint16(rom[at%page]) + 256*uint16(rom[(at+1)%page])
		if got := cart.Word(rom, uint16(at)); got != want {
			t.Fatalf("Word at %#x: %#x", at, got)
		}
	}
	if cart.Word(nil, 0) != 0xFFFF || cart.Word([]byte{1}, 0) != 0xFF01 || cart.Word([]byte{1}, 8191) != 0x01FF {
		t.Error("words of no image")
	}
}

// goes are five words whose bytes are all unlike.
var goes = [5]uint16{0xE102, 0xE304, 0xE506, 0xE708, 0xE90A}

// P4.5: code and words are laid into one page of 0.
func TestProgram(t *testing.T) {
	for _, at := range []uint16{0, 1, 100, 8181, 8192, 8292, 0xE000, 0xE001, 0xFFF5} {
		for _, code := range [][]byte{nil, {}, {0xEA}, counted(81), counted(8182)} {
			from := int(at) % page
			if from+len(code) > 8182 {
				continue
			}
			want := make([]byte, page)
			copy(want[from:], code)
			copy(want[8182:], []byte{0x02, 0xE1, 0x04, 0xE3, 0x06, 0xE5, 0x08, 0xE7, 0x0A, 0xE9})
			rom, e := cart.Program(at, code, goes)
			if e != api.OK || !bytes.Equal(rom, want) {
				t.Errorf("Program(%#x, %d bytes): %d", at, len(code), e)
			}
		}
	}
}

// P4.5: code may end at 8182, and not one byte further; beside ErrLong there is no image (P2).
func TestProgramLong(t *testing.T) {
	for _, high := range []int{0, page, 0xE000} {
		for from := range page {
			at, room := uint16(high+from), 8182-from
			if room >= 0 {
				if rom, e := cart.Program(at, counted(room), goes); e != api.OK || len(rom) != page || rom[8182] != 0x02 {
					t.Fatalf("Program(%#x, %d bytes): %d", at, room, e)
				}
			}
			if rom, e := cart.Program(at, counted(max(room+1, 0)), goes); e != api.ErrLong || len(rom) != 0 {
				t.Fatalf("Program(%#x, %d bytes): %d", at, room+1, e)
			}
		}
	}
	if rom, e := cart.Program(0, counted(1<<20), goes); e != api.ErrLong || len(rom) != 0 {
		t.Error("code of a million bytes")
	}
	if rom, e := cart.Program(8182, nil, goes); e != api.OK || len(rom) != page {
		t.Error("no code at 8182")
	}
}

// P4.5: where one goes is read as words again.
func TestProgramWords(t *testing.T) {
	rom, _ := cart.Program(0, nil, goes)
	for i, want := range goes {
		if got := cart.Word(rom, uint16(0xFFF6+2*i)); got != want {
			t.Errorf("word %d: %#x", i, got)
		}
	}
}

// P3: what is handed in stays as it is, spare room too.
func TestKeepsGiven(t *testing.T) {
	room := counted(3 * page)
	want := slices.Clone(room)
	part := room[page : 2*page]
	list := [3]api.Piece{{At: 1, Bytes: room[5:9]}, {At: page}, {At: 7, Bytes: room[:2]}}
	cart.Make(1, list[:1])
	cart.Pieces(part)
	cart.Program(5, room[10:20], goes)
	cart.Word(part, 8191)
	if !bytes.Equal(room, want) {
		t.Error("bytes that were given are changed")
	}
	if !alike(list[:], []api.Piece{{At: 1, Bytes: want[5:9]}, {At: page}, {At: 7, Bytes: want[:2]}}) {
		t.Error("pieces that were given are changed")
	}
}

// P3: an image shares nothing with what it is made of, nor with another one.
func TestImageApart(t *testing.T) {
	code := []byte{1, 2, 3}
	rom, _ := cart.Make(1, []api.Piece{{At: 0, Bytes: code}})
	second, _ := cart.Make(1, []api.Piece{{At: 0, Bytes: code}})
	third, _ := cart.Program(0, code, goes)
	clear(second)
	code[0] = 9
	if rom[0] != 1 || third[0] != 1 {
		t.Error("an image is changed with its pieces")
	}
	rom[1] = 9
	if code[1] != 2 || third[1] != 2 {
		t.Error("pieces are changed with their image")
	}
	whole := counted(page)
	rom, _ = cart.Make(1, []api.Piece{{At: 0, Bytes: whole}})
	rom[0] = 99
	if whole[0] != 1 {
		t.Error("a piece as long as the image is the image")
	}
}

// P3: pieces share nothing with the image, nor with one another.
func TestPiecesApart(t *testing.T) {
	rom := make([]byte, page)
	copy(rom, []byte{1, 2, 0, 3, 4, 0, 5})
	want := slices.Clone(rom)
	l, _ := cart.Pieces(rom)
	l[0].Bytes[0] = 9
	_ = append(l[0].Bytes, 9, 9, 9)
	_ = append(l[1].Bytes, 9, 9, 9)
	if !bytes.Equal(rom, want) {
		t.Error("an image is changed with its pieces")
	}
	clear(rom)
	if l[0].Bytes[1] != 2 || !alike(l[1:], []api.Piece{{At: 3, Bytes: []byte{3, 4}}, {At: 6, Bytes: []byte{5}}}) {
		t.Errorf("pieces are changed: %v", l)
	}
}

// The examples of the chapter.
func TestExamples(t *testing.T) {
	rom, f := cart.Make(1, []api.Piece{{At: 0, Bytes: []byte{5}}})
	if f != (api.Fault{}) || len(rom) != page || rom[0] != 5 {
		t.Error("Make(1, [0: 5])")
	}
	if l, e := cart.Pieces(rom); e != api.OK || !alike(l, []api.Piece{{At: 0, Bytes: []byte{5}}}) {
		t.Errorf("Pieces: %v", l)
	}
	rom, e := cart.Program(0, []byte{0xEA}, [5]uint16{0xE000, 0xE000, 0xE000, 0xE000, 0xE000})
	if e != api.OK || rom[0] != 0xEA || rom[8190] != 0 || rom[8191] != 0xE0 {
		t.Error("Program(0, {0xEA}, all of 0xE000)")
	}
}
