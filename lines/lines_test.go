package lines_test

import (
	"math"
	"slices"
	"testing"

	"gannet/api"
	"gannet/lines"
)

// latest is 24 times api.MaxBudget.
const latest = 24 << 40

// stamps are stamps that are asked for, the edges of what may be among them.
var stamps = []int64{math.MinInt64, -latest, -1, 0, 1, 4, 5, 6, 9, 1000, latest - 1, latest, latest + 1, math.MaxInt64}

// up is an edge at which a line goes up, down one at which it goes down.
func up(stamp int64, line uint8) api.Edge   { return api.Edge{Stamp: stamp, Line: line, Up: true} }
func down(stamp int64, line uint8) api.Edge { return api.Edge{Stamp: stamp, Line: line} }

// counted is so many edges, two at each stamp, of all lines in turn.
func counted(n int) []api.Edge {
	l := make([]api.Edge, n)
	for i := range l {
		l[i] = api.Edge{Stamp: int64(i / 2 * 3), Line: uint8(i % 4), Up: i%8 < 4 || i%3 == 0}
	}
	return l
}

// mixed is edges of all lines, such as are at one stamp, and such as change nothing, among them.
func mixed() []api.Edge {
	return []api.Edge{
		up(0, api.LineIrq1), down(0, api.LineIrq2), up(1, api.LineNmi), up(4, api.LineNmi), up(5, api.LineReset),
		down(5, api.LineIrq1), down(5, api.LineNmi), up(5, api.LineNmi), down(6, api.LineReset), up(9, api.LineIrq2),
		down(1000, api.LineNmi), up(latest, api.LineIrq1), up(latest, api.LineNmi),
	}
}

// rows are lists of edges that may be.
func rows() map[string][]api.Edge {
	return map[string][]api.Edge{
		"nil": nil, "empty": {}, "one": {up(5, api.LineIrq1)}, "down": {down(5, api.LineReset)},
		"mixed": mixed(), "many": counted(1000),
	}
}

// faulty is edges that may not be, and how they are wrong.
type faulty struct {
	l    []api.Edge
	want api.Fault
}

// wrong are lists of edges that may not be.
func wrong() map[string]faulty {
	behind := func(e ...api.Edge) []api.Edge { return append([]api.Edge{up(5, 0), down(9, 3)}, e...) }
	return map[string]faulty{
		"1001":                {counted(1001), api.Fault{Errno: api.ErrLong, At: 1000}},
		"5000":                {counted(5000), api.Fault{Errno: api.ErrLong, At: 1000}},
		"1001, wrong":         {append([]api.Edge{up(-1, 4)}, counted(1000)...), api.Fault{Errno: api.ErrLong, At: 1000}},
		"line 4":              {[]api.Edge{up(0, 4)}, api.Fault{Errno: api.ErrLine}},
		"line 255":            {behind(down(9, 255)), api.Fault{Errno: api.ErrLine, At: 2}},
		"below 0":             {[]api.Edge{up(-1, 0)}, api.Fault{Errno: api.ErrEdge}},
		"far below 0":         {[]api.Edge{down(math.MinInt64, 1)}, api.Fault{Errno: api.ErrEdge}},
		"late":                {[]api.Edge{up(latest+1, 0)}, api.Fault{Errno: api.ErrEdge}},
		"far too late":        {behind(up(math.MaxInt64, 2)), api.Fault{Errno: api.ErrEdge, At: 2}},
		"falls":               {behind(up(8, 3)), api.Fault{Errno: api.ErrEdge, At: 2}},
		"falls by line":       {behind(up(8, 0)), api.Fault{Errno: api.ErrEdge, At: 2}},
		"falls below 0":       {behind(up(-1, 0)), api.Fault{Errno: api.ErrEdge, At: 2}},
		"line, and below 0":   {behind(up(-1, 4)), api.Fault{Errno: api.ErrLine, At: 2}},
		"line, and late":      {[]api.Edge{up(latest+1, 4)}, api.Fault{Errno: api.ErrLine}},
		"line, and falls":     {behind(up(8, 100)), api.Fault{Errno: api.ErrLine, At: 2}},
		"stamp, then line":    {behind(up(8, 1), up(9, 4)), api.Fault{Errno: api.ErrEdge, At: 2}},
		"line, then stamp":    {behind(up(9, 4), up(8, 1)), api.Fault{Errno: api.ErrLine, At: 2}},
		"two that fall":       {behind(up(8, 1), up(7, 1)), api.Fault{Errno: api.ErrEdge, At: 2}},
		"late, then all well": {[]api.Edge{up(latest+1, 0), up(3, 0)}, api.Fault{Errno: api.ErrEdge}},
		"the last of 1000":    {append(counted(999), up(0, 0)), api.Fault{Errno: api.ErrEdge, At: 999}},
	}
}

// is tells whether all that is told of lines is as it is behind so many edges.
func is(s *lines.Lines, l []api.Edge, seen int, rose bool) bool {
	var stand [256]bool
	for _, e := range l[:seen] {
		stand[e.Line] = e.Up
	}
	for line, want := range stand {
		if s.Up(uint8(line)) != want {
			return false
		}
	}
	want := int64(0)
	if seen < len(l) {
		want = l[seen].Stamp
	}
	next, some := s.Next()
	return next == want && some == (seen < len(l)) && s.Seen() == seen && s.Rose() == rose
}

// made is lines of edges that may be, gone on to stamps.
func made(t *testing.T, l []api.Edge, to ...int64) *lines.Lines {
	t.Helper()
	s, f := lines.New(l)
	if s == nil || f != (api.Fault{}) {
		t.Fatalf("New(%v): %v, %v", l, s, f)
	}
	for _, stamp := range to {
		s.To(stamp)
	}
	return s
}

// behind is how many edges aren't above a stamp.
func behind(l []api.Edge, stamp int64) int {
	n := 0
	for n < len(l) && l[n].Stamp <= stamp {
		n++
	}
	return n
}

// P7.1: such edges may be: none, and up to 1000 of them.
func TestCheck(t *testing.T) {
	for name, l := range rows() {
		if f := lines.Check(l); f != (api.Fault{}) {
			t.Errorf("%s: %v", name, f)
		}
	}
	for _, n := range []int{1, 2, 999, 1000} {
		if f := lines.Check(counted(n)); f != (api.Fault{}) {
			t.Errorf("%d edges: %v", n, f)
		}
	}
}

// P7.1, P2: too many; else the first edge that is wrong, by its line ahead of its stamp.
func TestCheckWrong(t *testing.T) {
	for name, w := range wrong() {
		if f := lines.Check(w.l); f != w.want {
			t.Errorf("%s: %v, not %v", name, f, w.want)
		}
	}
}

// P7.1: there are four lines, at each place of a list.
func TestCheckLine(t *testing.T) {
	for line := range 256 {
		for at := range 5 {
			l := slices.Repeat([]api.Edge{up(7, 2)}, 5)
			l[at].Line = uint8(line)
			want := api.Fault{}
			if line > 3 {
				want = api.Fault{Errno: api.ErrLine, At: at}
			}
			if f := lines.Check(l); f != want {
				t.Errorf("line %d at %d: %v", line, at, f)
			}
		}
	}
}

// P7.1: stamps are from 0 to 24 times api.MaxBudget, those at both ends among them.
func TestCheckStamp(t *testing.T) {
	for _, stamp := range stamps {
		want := api.Fault{}
		if stamp < 0 || stamp > 24*api.MaxBudget {
			want.Errno = api.ErrEdge
		}
		for line := range uint8(4) {
			if f := lines.Check([]api.Edge{up(stamp, line)}); f != want {
				t.Errorf("up at %d: %v", stamp, f)
			}
			if f := lines.Check([]api.Edge{down(stamp, line)}); f != want {
				t.Errorf("down at %d: %v", stamp, f)
			}
		}
	}
}

// P7.1: no stamp is below that of the edge ahead of it, whatever their lines; alike they may be.
func TestCheckOrder(t *testing.T) {
	for _, stamp := range []int64{1, 100, latest} {
		for line := range uint8(4) {
			for _, by := range []int64{-1, 0, 1} {
				want := api.Fault{}
				if by < 0 || stamp+by > latest {
					want = api.Fault{Errno: api.ErrEdge, At: 1}
				}
				if f := lines.Check([]api.Edge{up(stamp, 1), down(stamp+by, line)}); f != want {
					t.Errorf("%d behind %d: %v", stamp+by, stamp, f)
				}
			}
		}
	}
	if f := lines.Check([]api.Edge{up(3, 0), up(4, 0), up(3, 0), up(4, 0)}); f != (api.Fault{Errno: api.ErrEdge, At: 2}) {
		t.Errorf("a stamp that isn't below all ahead of it: %v", f)
	}
}

// P7.2: ahead of its first edge a line is down; from an edge on it is so, up to its next one.
func TestAt(t *testing.T) {
	l := []api.Edge{up(4, 1), up(5, 3), down(6, 1), up(9, 1), down(9, 3)}
	for _, c := range []struct {
		line  uint8
		stamp int64
		want  bool
	}{
		{1, 3, false}, {1, 4, true}, {1, 5, true}, {1, 6, false}, {1, 8, false}, {1, 9, true}, {1, 10, true},
		{3, 4, false}, {3, 5, true}, {3, 8, true}, {3, 9, false}, {3, math.MaxInt64, false}, {1, math.MaxInt64, true},
		{0, 9, false}, {2, 9, false}, {4, 9, false}, {255, 9, false}, {1, -1, false}, {1, math.MinInt64, false},
	} {
		if got := lines.At(l, c.line, c.stamp); got != c.want {
			t.Errorf("line %d at %d: %v", c.line, c.stamp, got)
		}
	}
}

// P7.2: of no edges no line is up, whichever and whenever.
func TestAtOfNone(t *testing.T) {
	for _, l := range [][]api.Edge{nil, {}} {
		for line := range 256 {
			for _, stamp := range stamps {
				if lines.At(l, uint8(line), stamp) {
					t.Errorf("line %d is up at %d", line, stamp)
				}
			}
		}
	}
}

// P7.2: lines that there are none of aren't up.
func TestAtNoLine(t *testing.T) {
	for _, l := range rows() {
		for line := 4; line < 256; line++ {
			for _, stamp := range stamps {
				if lines.At(l, uint8(line), stamp) {
					t.Errorf("line %d is up at %d", line, stamp)
				}
			}
		}
	}
}

// P7.2: of edges at one stamp the last one of the line counts.
func TestAtOneStamp(t *testing.T) {
	for line := range uint8(4) {
		other := (line + 1) % 4
		if lines.At([]api.Edge{up(5, line), down(5, line), up(5, other)}, line, 5) {
			t.Errorf("line %d is up, having gone down at last", line)
		}
		if !lines.At([]api.Edge{down(5, line), up(5, line), down(5, other)}, line, 5) {
			t.Errorf("line %d is down, having gone up at last", line)
		}
	}
}

// P7.2, P1: edges that may not be are gone through likewise, up to the first one that is above the stamp.
func TestAtWrong(t *testing.T) {
	falls := []api.Edge{up(5, 1), down(9, 0), down(2, 1)}
	if !lines.At(falls, 1, 8) || lines.At(falls, 1, 9) {
		t.Error("an edge behind one that is above the stamp")
	}
	early := []api.Edge{up(-7, 2)}
	if lines.At(early, 2, -8) || !lines.At(early, 2, -7) || !lines.At(early, 2, 0) {
		t.Error("an edge below 0")
	}
	late := []api.Edge{up(math.MaxInt64, 2)}
	if lines.At(late, 2, math.MaxInt64-1) || !lines.At(late, 2, math.MaxInt64) {
		t.Error("an edge at the greatest number")
	}
	if !lines.At(append(make([]api.Edge, 1500), up(3, 0)), 0, 3) {
		t.Error("more than 1000 edges")
	}
}

// P7.3, P2: New has Check's fault, and no lines then.
func TestNewWrong(t *testing.T) {
	for name, w := range wrong() {
		if s, f := lines.New(w.l); s != nil || f != w.want {
			t.Errorf("%s: %v, %v", name, s, f)
		}
	}
}

// P7.3: new lines are down, ahead of all edges, even of those at 0.
func TestNew(t *testing.T) {
	for name, l := range rows() {
		if s := made(t, l); !is(s, l, 0, false) {
			t.Errorf("%s: %d seen", name, s.Seen())
		}
	}
	if made(t, nil) == made(t, nil) {
		t.Error("two new lines are one")
	}
}

// P7.3: To passes all edges that aren't above the stamp, and no other; of none there is nothing to pass.
func TestTo(t *testing.T) {
	for name, l := range rows() {
		for _, stamp := range stamps {
			s, n := made(t, l, stamp), behind(l, stamp)
			if !is(s, l, n, s.Rose()) {
				t.Errorf("%s: to %d: %d seen, not %d", name, stamp, s.Seen(), n)
			}
		}
	}
}

// P7.3: To a stamp that was passed, below 0, or the same again, passes nothing.
func TestToBack(t *testing.T) {
	l := mixed()
	for _, stamp := range stamps {
		for _, back := range stamps {
			if back > stamp {
				break
			}
			s, n := made(t, l, stamp), behind(l, stamp)
			rose := s.Rose()
			if s.To(back); !is(s, l, n, rose) {
				t.Errorf("to %d, and back to %d", stamp, back)
			}
		}
	}
}

// P7.3: edge by edge, the next one's stamp and how many went by, such as are at one stamp among them.
func TestNextAndSeen(t *testing.T) {
	l := []api.Edge{up(2, 0), up(2, 1), down(2, 0), up(7, 2), up(8, 2)}
	for _, c := range []struct {
		to, next int64
		seen     int
	}{{-1, 2, 0}, {1, 2, 0}, {2, 7, 3}, {6, 7, 3}, {7, 8, 4}} {
		s := made(t, l, c.to)
		if next, some := s.Next(); next != c.next || !some || s.Seen() != c.seen {
			t.Errorf("to %d: %d, %v, %d seen", c.to, next, some, s.Seen())
		}
	}
	for _, to := range []int64{8, 9, math.MaxInt64} {
		s := made(t, l, to)
		if next, some := s.Next(); next != 0 || some || s.Seen() != 5 {
			t.Errorf("behind all: %d, %v, %d seen", next, some, s.Seen())
		}
	}
}

// P7.3: gone on by what Next tells, each edge goes by just once.
func TestByNext(t *testing.T) {
	for name, l := range rows() {
		s, last := made(t, l), int64(-1)
		for next, some := s.Next(); some; next, some = s.Next() {
			if next <= last {
				t.Fatalf("%s: %d behind %d", name, next, last)
			}
			s.To(next)
			last = next
			if s.Seen() != behind(l, next) {
				t.Errorf("%s: at %d: %d seen", name, next, s.Seen())
			}
		}
		if s.Seen() != len(l) {
			t.Errorf("%s: %d seen at last", name, s.Seen())
		}
	}
}

// P7.3: lines that there are none of are never up.
func TestUpNoLine(t *testing.T) {
	s := made(t, []api.Edge{up(0, 0), up(0, 1), up(0, 2), up(0, 3)}, 0)
	for line := range 256 {
		if s.Up(uint8(line)) != (line < 4) {
			t.Errorf("line %d: %v", line, s.Up(uint8(line)))
		}
	}
}

// P7.4: nmi rises as it goes up, having been down; not as it is up again, nor as it goes down, nor as others rise.
func TestRose(t *testing.T) {
	nmi := uint8(api.LineNmi)
	for name, c := range map[string]struct {
		l    []api.Edge
		want bool
	}{
		"none":                {nil, false},
		"up":                  {[]api.Edge{up(3, nmi)}, true},
		"up twice":            {[]api.Edge{up(2, nmi), up(3, nmi)}, true},
		"up and down":         {[]api.Edge{up(2, nmi), down(3, nmi)}, true},
		"at one stamp":        {[]api.Edge{up(3, nmi), down(3, nmi)}, true},
		"down and up":         {[]api.Edge{down(3, nmi), up(3, nmi)}, true},
		"down":                {[]api.Edge{down(2, nmi), down(3, nmi)}, false},
		"ahead":               {[]api.Edge{up(4, nmi)}, false},
		"others":              {[]api.Edge{up(1, 0), up(2, 2), up(3, 3), down(3, nmi)}, false},
		"others ahead of it":  {[]api.Edge{up(1, 0), up(1, 2), up(1, 3), up(3, nmi)}, true},
		"others behind it":    {[]api.Edge{up(1, nmi), up(1, 0), up(2, 2), up(3, 3), down(3, 3)}, true},
		"at 0":                {[]api.Edge{up(0, nmi)}, true},
		"down, others rising": {[]api.Edge{down(0, nmi), up(0, 0), down(0, nmi), up(0, 3)}, false},
	} {
		if s := made(t, c.l, 3); s.Rose() != c.want {
			t.Errorf("%s: %v", name, s.Rose())
		}
	}
}

// P7.4: what rose stays so till it is taken; taken, it rises just as it goes up from down again.
func TestTake(t *testing.T) {
	nmi := uint8(api.LineNmi)
	l := []api.Edge{up(1, nmi), up(2, nmi), down(3, nmi), up(4, 2), up(5, nmi), down(6, nmi), up(6, nmi), down(7, nmi)}
	s := made(t, l)
	for n, rises := range []bool{true, false, false, false, true} {
		s.To(int64(n + 1))
		if !is(s, l, n+1, rises) {
			t.Fatalf("at %d: rose: %v", n+1, s.Rose())
		}
		if s.To(int64(n + 1)); s.Rose() != rises {
			t.Errorf("at %d: the same again", n+1)
		}
		s.Take()
		if s.Take(); !is(s, l, n+1, false) {
			t.Errorf("at %d: taken, it rose still, or something else is changed", n+1)
		}
	}
	s.To(6)
	if s.To(7); !is(s, l, 8, true) {
		t.Error("what rose goes with its edge down")
	}
}

// P7.4: taken ahead of all edges nothing is taken of what rises later.
func TestTakeAhead(t *testing.T) {
	l := []api.Edge{up(1, api.LineNmi)}
	s := made(t, l)
	s.Take()
	s.To(0)
	s.Take()
	if s.To(1); !is(s, l, 1, true) {
		t.Error("what is ahead was taken")
	}
	s.Take()
	s.To(-5)
	if s.To(100); !is(s, l, 1, false) {
		t.Error("what was taken rose again")
	}
}

// P7.4, P5: a clone is alike, another one, and apart, whichever of both goes on.
func TestClone(t *testing.T) {
	l := mixed()
	for _, stamp := range stamps {
		s, n := made(t, l, stamp), behind(l, stamp)
		rose := s.Rose()
		c := s.Clone()
		if c == nil || c == s || !is(c, l, n, rose) || !is(s, l, n, rose) {
			t.Fatalf("a clone at %d isn't alike, or isn't another one", stamp)
		}
		if c.To(latest); !is(c, l, len(l), true) || !is(s, l, n, rose) {
			t.Errorf("a clone goes on from %d, and the first one with it", stamp)
		}
		if c.Take(); !is(s, l, n, rose) {
			t.Errorf("a clone is taken at %d, and the first one with it", stamp)
		}
		d := s.Clone()
		s.To(latest)
		if s.Take(); !is(s, l, len(l), false) || !is(d, l, n, rose) || !is(c, l, len(l), false) {
			t.Errorf("the first one goes on from %d, and its clone with it", stamp)
		}
		if d.To(latest); !is(d, l, len(l), true) {
			t.Errorf("a clone at %d doesn't go on behind the first one", stamp)
		}
	}
}

// P7.4, P1: of nil nothing is up, nor rose; it has no edges, and nothing happens.
func TestNil(t *testing.T) {
	var s *lines.Lines
	for _, stamp := range stamps {
		s.To(stamp)
		if s.Take(); !is(s, nil, 0, false) {
			t.Error("nil lines")
		}
	}
	if s.Clone() != nil {
		t.Error("the clone of nil lines")
	}
}

// P1: lines that no call made are as new ones of no edges.
func TestUnmade(t *testing.T) {
	s := &lines.Lines{}
	for _, stamp := range stamps {
		s.To(stamp)
		if s.Take(); !is(s, nil, 0, false) || !is(s.Clone(), nil, 0, false) {
			t.Error("lines that no call made")
		}
	}
	if c := s.Clone(); c == nil || c == s {
		t.Error("a clone of lines that no call made")
	}
}

// P3: edges stay, spare room too; what the caller changes of them afterwards doesn't touch the lines, nor their clone.
func TestKeepsGiven(t *testing.T) {
	room := slices.Concat(mixed(), mixed())
	want := slices.Clone(room)
	n := len(mixed())
	s := made(t, room[:n], 4)
	c := s.Clone()
	c.To(1000)
	lines.Check(room[:n])
	lines.At(room[:n], 1, 5)
	if !slices.Equal(room, want) {
		t.Error("a list that was given is changed")
	}
	for i := range room {
		room[i] = api.Edge{Stamp: -1, Line: 200}
	}
	if !is(s, want[:n], 4, true) || !is(c, want[:n], 11, true) {
		t.Error("lines are changed with their list")
	}
	s.To(latest)
	if c.To(latest); !is(s, want[:n], n, true) || !is(c, want[:n], n, true) {
		t.Error("lines go on by a list that was changed")
	}
}

// told is four edges that a number tells: of lines that it gives, up and down, at stamps that rise by 0 or by 2.
func told(n int) []api.Edge {
	l, stamp := make([]api.Edge, 4), int64(0)
	for i := range l {
		if n%3 == 0 {
			stamp += 2
		}
		l[i] = api.Edge{Stamp: stamp, Line: uint8(n / 2 % 4), Up: n%2 == 0}
		n = n*7/3 + i
	}
	return l
}

// P7.5: gone on to a stamp, in however many steps, a line is up just if it is so At that stamp.
func TestSteps(t *testing.T) {
	const end = 9
	for n := range 300 {
		l := told(n)
		for steps := range 1 << end {
			s := made(t, l)
			for stamp := range int64(end) {
				if steps>>stamp&1 == 0 {
					continue
				}
				s.To(stamp)
				for line := range uint8(5) {
					if s.Up(line) != lines.At(l, line, stamp) {
						t.Fatalf("%v: line %d at %d, by steps %b", l, line, stamp, steps)
					}
				}
			}
		}
	}
}

// P7.5: what rose doesn't hang on the steps, either.
func TestRoseBySteps(t *testing.T) {
	for n := range 300 {
		l := told(n)
		once, each := made(t, l, 20), made(t, l, 0, 1, 2, 3, 4, 5, 6, 7, 8, 20)
		if once.Rose() != each.Rose() || once.Seen() != each.Seen() {
			t.Errorf("%v: at once %v, in steps %v", l, once.Rose(), each.Rose())
		}
	}
}

// The examples of the chapter.
func TestExamples(t *testing.T) {
	l := []api.Edge{up(5, api.LineIrq1), down(9, api.LineIrq1)}
	if lines.At(l, api.LineIrq1, 4) || !lines.At(l, api.LineIrq1, 5) || lines.At(l, api.LineIrq1, 9) {
		t.Error("a line that goes up and down")
	}
	again := []api.Edge{up(5, api.LineNmi), up(6, api.LineNmi)}
	s := made(t, again, 5)
	s.Take()
	if s.To(6); s.Rose() || !s.Up(api.LineNmi) {
		t.Error("up again of what is up")
	}
}
