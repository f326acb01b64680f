package feed_test

import (
	"bytes"
	"math"
	"slices"
	"testing"

	"gannet/api"
	"gannet/feed"
)

// lists are bytes of feeds: none, one, some, 255 and 0 among them, and as many as may be.
func lists() map[string][]byte {
	return map[string][]byte{
		"nil": nil, "empty": {}, "one": {7}, "zero": {0}, "255": {255}, "two": {1, 2},
		"some": {9, 255, 0, 0, 128, 255, 3}, "many": counted(api.MaxFeed),
	}
}

// counted is so many bytes, each unlike its neighbours.
func counted(n int) []byte {
	b := make([]byte, n)
	for i := range b {
		b[i] = byte(i * 7)
	}
	return b
}

// at is the byte of a number; 255, if there is none.
func at(l []byte, n int) byte {
	if n < 0 || n >= len(l) {
		return 255
	}
	return l[n]
}

// is tells whether a feed has such bytes left, behind so many that were asked for.
func is(f *feed.Feed, left []byte, taken int) bool {
	if f.Left() != len(left) || f.Taken() != taken {
		return false
	}
	for _, n := range []int{math.MinInt, -1, 0, 1, len(left) - 1, len(left), len(left) + 1, math.MaxInt} {
		if f.Peek(n) != at(left, n) {
			return false
		}
	}
	return true
}

// P6.1: the bytes come one by one, each just once; behind them 255, which counts as asked for.
func TestNext(t *testing.T) {
	for name, l := range lists() {
		f := feed.New(l)
		for n := range len(l) + 5 {
			if !is(f, l[min(n, len(l)):], n) {
				t.Fatalf("%s: behind %d: %d left, %d taken", name, n, f.Left(), f.Taken())
			}
			if got := f.Next(); got != at(l, n) {
				t.Fatalf("%s: byte %d: %d", name, n, got)
			}
		}
		if !is(f, nil, len(l)+5) {
			t.Errorf("%s: at last: %d left, %d taken", name, f.Left(), f.Taken())
		}
	}
}

// P6.1: a feed of no bytes, or of nil, is read as 255 from the first time on.
func TestNextOfNone(t *testing.T) {
	for _, l := range [][]byte{nil, {}} {
		f := feed.New(l)
		if f == nil || !is(f, nil, 0) {
			t.Error("a feed of no bytes")
		}
		for n := range 1000 {
			if f.Next() != 255 || f.Left() != 0 || f.Taken() != n+1 {
				t.Fatalf("a feed of no bytes: %d taken", f.Taken())
			}
		}
	}
}

// P6.1: what is told ahead comes, and nothing is taken by telling it.
func TestPeek(t *testing.T) {
	l := lists()["some"]
	f := feed.New(l)
	for taken := range len(l) + 2 {
		for n := -3; n < len(l)+3; n++ {
			want := byte(255)
			if n >= 0 {
				want = at(l, taken+n)
			}
			if got := f.Peek(n); got != want {
				t.Errorf("%d taken, Peek(%d): %d", taken, n, got)
			}
		}
		if f.Taken() != taken || f.Left() != max(len(l)-taken, 0) {
			t.Errorf("a byte is taken by Peek: %d, %d left", f.Taken(), f.Left())
		}
		if ahead := f.Peek(0); f.Next() != ahead {
			t.Error("Peek(0) isn't what comes next")
		}
	}
}

// P6.1: Peek answers what Next would behind n others, below 0 and beyond all.
func TestPeekIsNext(t *testing.T) {
	for name, l := range lists() {
		f := feed.New(l)
		for _, n := range []int{0, 1, 2, len(l) - 1, len(l), len(l) + 1, len(l) + 100} {
			if n < 0 {
				continue
			}
			c := feed.New(l)
			for range n {
				c.Next()
			}
			if f.Peek(n) != c.Next() {
				t.Errorf("%s: Peek(%d): %d", name, n, f.Peek(n))
			}
		}
		for _, n := range []int{-1, -2, -len(l), -len(l) - 1, math.MinInt, math.MaxInt, math.MaxInt - 1} {
			if n != 0 && f.Peek(n) != 255 {
				t.Errorf("%s: Peek(%d): %d", name, n, f.Peek(n))
			}
		}
	}
	f := feed.New([]byte{1, 2, 3})
	f.Next()
	if f.Peek(-1) != 255 {
		t.Error("a byte that was taken is told again")
	}
}

// P6.2, P5: a clone is alike, another one, and apart, whichever of both goes on.
func TestClone(t *testing.T) {
	for name, l := range lists() {
		for _, taken := range []int{0, 1, 2, len(l) - 1, len(l), len(l) + 3} {
			f := feed.New(l)
			for range taken {
				f.Next()
			}
			taken = max(taken, 0)
			left := l[min(taken, len(l)):]
			c := f.Clone()
			if c == nil || c == f || !is(c, left, taken) || !is(f, left, taken) {
				t.Fatalf("%s: a clone behind %d isn't alike, or isn't another one", name, taken)
			}
			for n := range 3 {
				if c.Next() != at(left, n) || !is(f, left, taken) {
					t.Errorf("%s: a clone goes on behind %d, and the first one with it", name, taken)
				}
			}
			for n := range 5 {
				if f.Next() != at(left, n) || !is(c, left[min(3, len(left)):], taken+3) {
					t.Errorf("%s: the first one goes on behind %d, and its clone with it", name, taken)
				}
			}
		}
	}
}

// P6.2: a clone of a clone is apart from both.
func TestCloneOfClone(t *testing.T) {
	f := feed.New([]byte{1, 2, 3, 4})
	f.Next()
	c := f.Clone()
	c.Next()
	d := c.Clone()
	d.Next()
	if !is(f, []byte{2, 3, 4}, 1) || !is(c, []byte{3, 4}, 2) || !is(d, []byte{4}, 3) {
		t.Error("three feeds aren't apart")
	}
}

// P6.2, P1: nil has none left, of nothing; nothing is counted.
func TestNil(t *testing.T) {
	var f *feed.Feed
	for range 3 {
		if f.Next() != 255 || !is(f, nil, 0) {
			t.Error("a nil feed")
		}
	}
	if f.Clone() != nil {
		t.Error("a nil feed's clone")
	}
}

// P1: a feed that no call made is as a new one of no bytes.
func TestUnmade(t *testing.T) {
	f := &feed.Feed{}
	if !is(f, nil, 0) {
		t.Error("a feed that no call made")
	}
	c := f.Clone()
	if f.Next() != 255 || f.Next() != 255 || !is(f, nil, 2) {
		t.Error("a feed that no call made, asked for bytes")
	}
	if c == nil || c == f || !is(c, nil, 0) || c.Next() != 255 || !is(c, nil, 1) || !is(f.Clone(), nil, 2) {
		t.Error("a clone of a feed that no call made")
	}
}

// P6.3: each of the three may have 10000 bytes, and not one more.
func TestCheck(t *testing.T) {
	for _, n := range []int{0, 1, 9999, 10000, 10001, 20000, 1 << 20} {
		l, want := counted(n), api.OK
		if n > 10000 {
			want = api.ErrLong
		}
		most := counted(10000)
		for i, f := range []api.Feeds{
			{Vdc: l}, {Vce: l}, {Port: l},
			{Vdc: l, Vce: most, Port: most}, {Vdc: most, Vce: l, Port: most}, {Vdc: most, Vce: most, Port: l},
			{Vdc: l, Vce: l, Port: l}, {Vdc: l, Vce: []byte{}, Port: []byte{1}},
		} {
			if got := feed.Check(f); got != want {
				t.Errorf("feeds %d, of %d bytes: %d", i, n, got)
			}
		}
	}
	if feed.Check(api.Feeds{}) != api.OK || feed.Check(api.Feeds{Vdc: []byte{}, Vce: []byte{}, Port: []byte{}}) != api.OK {
		t.Error("feeds of no bytes")
	}
	half := counted(5000)
	if feed.Check(api.Feeds{Vdc: half, Vce: half, Port: half}) != api.OK {
		t.Error("three feeds are more than 10000 bytes together")
	}
}

// P6.1, P1: New takes as many bytes as it is given, more than Check lets be.
func TestNewLong(t *testing.T) {
	l := counted(api.MaxFeed + 1)
	f := feed.New(l)
	if !is(f, l, 0) {
		t.Error("a feed of 10001 bytes")
	}
	for _, want := range l {
		if f.Next() != want {
			t.Fatal("bytes of a feed of 10001")
		}
	}
}

// P6.4: two feeds that begin alike tell the same, as far as that goes.
func TestBeginAlike(t *testing.T) {
	begin := []byte{3, 1, 4, 1, 5, 9, 2, 6}
	f := feed.New(append(slices.Clone(begin), 1, 2, 3))
	g := feed.New(append(slices.Clone(begin), 200))
	h := feed.New(begin)
	for n, want := range begin {
		for ahead := range len(begin) - n {
			if f.Peek(ahead) != begin[n+ahead] || g.Peek(ahead) != f.Peek(ahead) || h.Peek(ahead) != f.Peek(ahead) {
				t.Errorf("behind %d, %d ahead", n, ahead)
			}
		}
		if f.Next() != want || g.Next() != want || h.Next() != want {
			t.Errorf("byte %d", n)
		}
		if f.Taken() != g.Taken() || g.Taken() != h.Taken() {
			t.Errorf("taken behind byte %d", n)
		}
	}
	if f.Next() != 1 || g.Next() != 200 || h.Next() != 255 {
		t.Error("what comes behind what is alike")
	}
}

// P6.4, P5: feeds have nothing to do with one another.
func TestApart(t *testing.T) {
	l := []byte{1, 2, 3}
	f, g := feed.New(l), feed.New(l)
	if f == g {
		t.Error("two feeds are one")
	}
	f.Next()
	f.Next()
	if !is(g, l, 0) || !is(f, l[2:], 2) {
		t.Error("a feed is taken with another one of the same bytes")
	}
}

// P3: the list stays, spare room too; what the caller changes of it afterwards doesn't touch the feed, nor its clone.
func TestKeepsGiven(t *testing.T) {
	room := counted(20)
	want := slices.Clone(room)
	f := feed.New(room[5:10])
	c := f.Clone()
	for range 8 {
		c.Next()
	}
	if !bytes.Equal(room, want) {
		t.Error("a list that was given is changed")
	}
	f.Next()
	c = f.Clone()
	clear(room)
	if !is(f, want[6:10], 1) || !is(c, want[6:10], 1) {
		t.Error("a feed is changed with its list")
	}
	for n := 6; n < 10; n++ {
		if f.Next() != want[n] || c.Next() != want[n] {
			t.Errorf("byte %d of a list that was changed", n)
		}
	}
}

// P3: feeds that are checked stay, spare room too.
func TestCheckKeeps(t *testing.T) {
	room := counted(30)
	want := slices.Clone(room)
	f := api.Feeds{Vdc: room[0:5], Vce: room[10:15], Port: room[20:25]}
	feed.Check(f)
	if !bytes.Equal(room, want) || len(f.Vdc) != 5 || len(f.Vce) != 5 || len(f.Port) != 5 {
		t.Error("feeds that were checked are changed")
	}
}

// The example of the chapter.
func TestExample(t *testing.T) {
	f := feed.New([]byte{1, 2})
	for i, want := range []byte{1, 2, 255} {
		if got := f.Next(); got != want {
			t.Errorf("byte %d: %d", i, got)
		}
	}
	if f.Left() != 0 || f.Taken() != 3 {
		t.Errorf("%d left, %d taken", f.Left(), f.Taken())
	}
}
