package script_test

import (
	"bytes"
	"fmt"
	"math"
	"reflect"
	"slices"
	"strings"
	"testing"

	"gannet/api"
	"gannet/script"
)

// sound is a script that may be run, of which nothing is empty.
func sound() api.Script {
	rom := make([]byte, 2*api.PageSize)
	copy(rom[0x1FFE:], []byte{0x00, 0xE0})
	return api.Script{
		Rom:    rom,
		Feeds:  api.Feeds{Vdc: []byte{1, 2}, Vce: []byte{3}, Port: []byte{0x5A, 0xFF, 0}},
		Edges:  []api.Edge{{Stamp: 5, Line: api.LineIrq1, Up: true}, {Stamp: 5, Line: api.LineNmi, Up: true}, {Stamp: 9, Line: api.LineIrq1}},
		Budget: 100,
	}
}

// changed is that script, with something done to it.
func changed(do ...func(s *api.Script)) api.Script {
	s := sound()
	for _, f := range do {
		f(&s)
	}
	return s
}

// What may be done to a script.
func rom(n int) func(s *api.Script) {
	return func(s *api.Script) { s.Rom = make([]byte, n) }
}

func budget(n int64) func(s *api.Script) {
	return func(s *api.Script) { s.Budget = n }
}

func edges(l ...api.Edge) func(s *api.Script) {
	return func(s *api.Script) { s.Edges = l }
}

func feeds(vdc, vce, port int) func(s *api.Script) {
	return func(s *api.Script) {
		s.Feeds = api.Feeds{Vdc: make([]byte, vdc), Vce: make([]byte, vce), Port: make([]byte, port)}
	}
}

// latest is the greatest stamp that an edge may have.
const latest = 24 << 40

// alike tells whether scripts are alike, lists that are nil and empty, too.
func alike(a, b api.Script) bool {
	return bytes.Equal(a.Rom, b.Rom) && bytes.Equal(a.Feeds.Vdc, b.Feeds.Vdc) && bytes.Equal(a.Feeds.Vce, b.Feeds.Vce) &&
		bytes.Equal(a.Feeds.Port, b.Feeds.Port) && slices.Equal(a.Edges, b.Edges) && a.Budget == b.Budget
}

// zero tells whether a script is zero.
func zero(s api.Script) bool { return alike(s, api.Script{}) }

// P33.1: scripts that may be run, those at the limits among them.
func TestCheck(t *testing.T) {
	for i, s := range []api.Script{
		sound(),
		{Rom: make([]byte, api.PageSize)},
		changed(rom(128 * api.PageSize)),
		changed(budget(0)),
		changed(budget(1 << 40)),
		changed(feeds(10000, 10000, 10000)),
		changed(edges(slices.Repeat([]api.Edge{{Stamp: latest, Line: api.LineIrq2}}, 1000)...)),
	} {
		if f := script.Check(s); f != (api.Fault{}) {
			t.Errorf("%d: %v", i, f)
		}
	}
}

// P33.1: each error, at its place.
func TestCheckFaults(t *testing.T) {
	for _, c := range []struct {
		name string
		s    api.Script
		want api.Fault
	}{
		{"zero", api.Script{}, api.Fault{Errno: api.ErrPages}},
		{"no image", changed(rom(0)), api.Fault{Errno: api.ErrPages}},
		{"a byte less than a page", changed(rom(8191)), api.Fault{Errno: api.ErrPages}},
		{"a byte more than a page", changed(rom(8193)), api.Fault{Errno: api.ErrPages}},
		{"129 pages", changed(rom(129 * 8192)), api.Fault{Errno: api.ErrPages}},
		{"vdc", changed(feeds(10001, 0, 0)), api.Fault{Errno: api.ErrLong}},
		{"vce", changed(feeds(0, 10001, 0)), api.Fault{Errno: api.ErrLong}},
		{"port", changed(feeds(0, 0, 10001)), api.Fault{Errno: api.ErrLong}},
		{"1001 edges", changed(edges(make([]api.Edge, 1001)...)), api.Fault{Errno: api.ErrLong, At: 1000}},
		{"no such line", changed(edges(api.Edge{}, api.Edge{Line: 4})), api.Fault{Errno: api.ErrLine, At: 1}},
		{"below 0", changed(edges(api.Edge{Stamp: -1})), api.Fault{Errno: api.ErrEdge}},
		{"too late", changed(edges(api.Edge{}, api.Edge{}, api.Edge{Stamp: latest + 1})), api.Fault{Errno: api.ErrEdge, At: 2}},
		{"falling", changed(edges(api.Edge{Stamp: 7}, api.Edge{Stamp: 6})), api.Fault{Errno: api.ErrEdge, At: 1}},
		{"budget below 0", changed(budget(-1)), api.Fault{Errno: api.ErrBudget}},
		{"least budget", changed(budget(math.MinInt64)), api.Fault{Errno: api.ErrBudget}},
		{"budget above", changed(budget(1<<40 + 1)), api.Fault{Errno: api.ErrBudget}},
		{"greatest budget", changed(budget(math.MaxInt64)), api.Fault{Errno: api.ErrBudget}},
	} {
		if f := script.Check(c.s); f != c.want {
			t.Errorf("%s: %v, not %v", c.name, f, c.want)
		}
	}
}

// P33.1, P2: of several faults the one that is named first is told: one more is mended each time.
func TestCheckOrder(t *testing.T) {
	s := changed(rom(1), feeds(0, 20000, 0), edges(api.Edge{}, api.Edge{Line: 9}), budget(-5))
	for i, c := range []struct {
		mend func(s *api.Script)
		want api.Fault
	}{
		{func(*api.Script) {}, api.Fault{Errno: api.ErrPages}},
		{rom(8192), api.Fault{Errno: api.ErrLong}},
		{feeds(1, 1, 1), api.Fault{Errno: api.ErrLine, At: 1}},
		{edges(), api.Fault{Errno: api.ErrBudget}},
		{budget(5), api.Fault{}},
	} {
		c.mend(&s)
		if f := script.Check(s); f != c.want {
			t.Errorf("%d: %v, not %v", i, f, c.want)
		}
	}
}

// P33.2: words between blanks; lines that are passed over.
func TestLine(t *testing.T) {
	for _, c := range []struct {
		line string
		want []string
	}{
		{"", nil}, {" ", nil}, {"     ", nil},
		{"a", []string{"a"}}, {" a", []string{"a"}}, {"a ", []string{"a"}}, {"   a   ", []string{"a"}},
		{"a b", []string{"a", "b"}}, {"a    b", []string{"a", "b"}}, {"  up 5   irq1  ", []string{"up", "5", "irq1"}},
		{"#", nil}, {"# a b", nil}, {"#a b", nil}, {"   # a", nil}, {"  ##", nil},
		{"a # b", []string{"a", "#", "b"}}, {"a #b", []string{"a", "#b"}}, {"a# b", []string{"a#", "b"}},
		// Nothing else is a blank.
		{"a\tb", []string{"a\tb"}}, {"\t", []string{"\t"}}, {"\t#", []string{"\t#"}}, {"a\r", []string{"a\r"}}, {"a\nb c", []string{"a\nb", "c"}}, {"\n", []string{"\n"}},
		{"a\u00a0b", []string{"a\u00a0b"}}, {"a\u2003b\u3000", []string{"a\u2003b\u3000"}}, {"\x00 \xff\xfe \xc3", []string{"\x00", "\xff\xfe", "\xc3"}}, {"é ö", []string{"é", "ö"}},
	} {
		if got := script.Line(c.line); !slices.Equal(got, c.want) {
			t.Errorf("%q: %q, not %q", c.line, got, c.want)
		}
	}
}

// P33.2: numbers, and what is none; how many digits there are is looked at first.
func TestNumber(t *testing.T) {
	for _, c := range []struct {
		s    string
		n    int64
		want api.Errno
	}{
		{"0", 0, api.OK}, {"1", 1, api.OK}, {"9", 9, api.OK}, {"10", 10, api.OK}, {"90210", 90210, api.OK}, {"1099511627776", 1 << 40, api.OK},
		{"100000000000000000", 1e17, api.OK}, {"999999999999999999", 1e18 - 1, api.OK}, {"123456789012345678", 123456789012345678, api.OK},
		{"", 0, api.ErrShort},
		{"1000000000000000000", 0, api.ErrLong}, {"0000000000000000000", 0, api.ErrLong}, {"abcdefghijklmnopqrs", 0, api.ErrLong}, {strings.Repeat("9", 1000), 0, api.ErrLong},
		{"00", 0, api.ErrForm}, {"01", 0, api.ErrForm}, {"000000000000000000", 0, api.ErrForm}, {"012345678901234567", 0, api.ErrForm},
		{"a", 0, api.ErrForm}, {"1a", 0, api.ErrForm}, {"a1", 0, api.ErrForm}, {"1 ", 0, api.ErrForm}, {" 1", 0, api.ErrForm}, {"1 2", 0, api.ErrForm},
		{"-1", 0, api.ErrForm}, {"+1", 0, api.ErrForm}, {"1.0", 0, api.ErrForm}, {"1_0", 0, api.ErrForm}, {"1e3", 0, api.ErrForm}, {"0x1", 0, api.ErrForm},
		{"/", 0, api.ErrForm}, {":", 0, api.ErrForm}, {"1/", 0, api.ErrForm}, {"1:", 0, api.ErrForm}, {"12345678901234567x", 0, api.ErrForm},
		{"1\n", 0, api.ErrForm}, {"\x00", 0, api.ErrForm}, {"٣", 0, api.ErrForm}, {"1\xff", 0, api.ErrForm},
	} {
		if n, e := script.Number(c.s); n != c.n || e != c.want {
			t.Errorf("%q: %d, %d, not %d, %d", c.s, n, e, c.n, c.want)
		}
	}
}

// P33.2: each byte alone, and behind a digit.
func TestNumberBytes(t *testing.T) {
	for b := range 256 {
		want, n := api.ErrForm, int64(0)
		if '0' <= b && b <= '9' {
			want, n = api.OK, int64(b-'0')
		}
		if got, e := script.Number(string([]byte{byte(b)})); got != n || e != want {
			t.Errorf("%d: %d, %d", b, got, e)
		}
		if want == api.OK {
			n += 70
		}
		if got, e := script.Number(string([]byte{'7', byte(b)})); got != n || e != want {
			t.Errorf("7 and %d: %d, %d", b, got, e)
		}
	}
}

// P33.5: edges ahead of a stamp, at it, and behind it.
func TestUntil(t *testing.T) {
	up := func(stamp int64) api.Edge { return api.Edge{Stamp: stamp, Line: api.LineIrq2, Up: true} }
	s := changed(edges(up(0), up(5), up(5), up(6), up(100)))
	for _, c := range []struct {
		stamp int64
		want  []api.Edge
	}{
		{-1, nil}, {math.MinInt64, nil}, {0, s.Edges[:1]}, {4, s.Edges[:1]}, {5, s.Edges[:3]}, {6, s.Edges[:4]}, {99, s.Edges[:4]}, {100, s.Edges}, {math.MaxInt64, s.Edges},
	} {
		want := s
		want.Edges = c.want
		if got := script.Until(s, c.stamp); !alike(got, want) {
			t.Errorf("%d: %v, not %v", c.stamp, got.Edges, c.want)
		}
	}
}

// P33.5, P1: of scripts that may not be run likewise, edge by edge.
func TestUntilAny(t *testing.T) {
	s := api.Script{Rom: []byte{1}, Edges: []api.Edge{{Stamp: 9}, {Stamp: -5, Line: 200}, {Stamp: 7, Up: true}, {Stamp: 3, Line: 2}}, Budget: -3}
	want := s
	want.Edges = []api.Edge{{Stamp: -5, Line: 200}, {Stamp: 3, Line: 2}}
	if got := script.Until(s, 6); !alike(got, want) {
		t.Errorf("%v", got)
	}
	if got := script.Until(api.Script{}, 0); !zero(got) {
		t.Errorf("%v", got)
	}
}

// P3: what Until answers is the caller's.
func TestUntilApart(t *testing.T) {
	s := sound()
	// Lists of what is handed in may be one another's.
	s.Feeds.Vce = s.Feeds.Vdc
	was := copied(s)
	got := script.Until(s, 1000)
	for _, l := range [][]byte{got.Rom, got.Feeds.Vdc, got.Feeds.Port} {
		clear(l)
	}
	clear(got.Edges)
	if !alike(s, was) {
		t.Errorf("%v", s)
	}
	if !bytes.Equal(got.Feeds.Vce, was.Feeds.Vce) {
		t.Errorf("a feed is another one's: %v", got.Feeds)
	}
	if clear(got.Feeds.Vce); !alike(s, was) {
		t.Errorf("%v", s.Feeds)
	}
}

// copied is a script that shares nothing.
func copied(s api.Script) api.Script {
	return api.Script{
		Rom:    bytes.Clone(s.Rom),
		Feeds:  api.Feeds{Vdc: bytes.Clone(s.Feeds.Vdc), Vce: bytes.Clone(s.Feeds.Vce), Port: bytes.Clone(s.Feeds.Port)},
		Edges:  slices.Clone(s.Edges),
		Budget: s.Budget,
	}
}

// roomy is a script whose lists have spare room, and that room.
func roomy() (api.Script, func() string) {
	s := sound()
	room := func(l []byte) []byte { return append(bytes.Clone(l), 0xAA, 0xBB, 0xCC) }
	all := [][]byte{room(s.Rom), room(s.Feeds.Vdc), room(s.Feeds.Vce), room(s.Feeds.Port)}
	l := append(slices.Clone(s.Edges), api.Edge{Stamp: 77, Line: 77}, api.Edge{Stamp: 78})
	s.Rom, s.Feeds.Vdc, s.Feeds.Vce, s.Feeds.Port = all[0][:len(s.Rom)], all[1][:len(s.Feeds.Vdc)], all[2][:len(s.Feeds.Vce)], all[3][:len(s.Feeds.Port)]
	s.Edges = l[:len(s.Edges)]
	return s, func() string { return fmt.Sprint(all, l) }
}

// P3: what is handed in stays as it is, spare room, too.
func TestStays(t *testing.T) {
	s, all := roomy()
	was := all()
	script.Check(s)
	script.Text(s)
	got := script.Until(s, 5)
	got.Edges = append(got.Edges, api.Edge{})
	got.Rom = append(got.Rom, 1)
	if all() != was {
		t.Error("it was changed")
	}
}

// P5: the same is answered each time.
func TestSame(t *testing.T) {
	text, f := script.Text(sound())
	for range 20 {
		if again, g := script.Text(sound()); again != text || g != f {
			t.Errorf("%q, not %q", again, text)
		}
		s, f := script.Parse(text)
		if !alike(s, sound()) || f != (api.Fault{}) {
			t.Errorf("%v", f)
		}
	}
	if got := script.Line("a b"); !reflect.DeepEqual(got, script.Line("a b")) {
		t.Error(got)
	}
}
