package mix_test

import (
	"math"
	"slices"
	"testing"

	"gannet/mix"
	"gannet/psg"
)

// power is Power, halved step by step.
func power(loss int) int {
	if loss < 0 {
		return 4096
	}
	if loss > 47 {
		return 0
	}
	n := []int{4096, 3444, 2896, 2435}[loss&3]
	for ; loss > 3; loss -= 4 {
		n /= 2
	}
	return n
}

// side is what a side of a voice makes.
func side(level, volume, balance, main byte) int {
	loss := 31 - int(volume&31) + 2*(15-int(balance&15)) + 2*(15-int(main&15))
	return (2*int(level&31) - 31) * power(loss)
}

// all is All, side by side.
func all(l []psg.Voice, left, right byte) [2]int {
	var sum [2]int
	for _, v := range l {
		sum[0] += side(v.Level, v.Volume, v.Left, left)
		sum[1] += side(v.Level, v.Volume, v.Right, right)
	}
	return sum
}

// both is two numbers as one value.
func both(left, right int) [2]int { return [2]int{left, right} }

// some is bytes: the least, the greatest, the edges of both counts, and values between.
func some() []byte {
	return []byte{0, 1, 7, 8, 14, 15, 16, 17, 30, 31, 32, 33, 47, 48, 63, 64, 127, 128, 240, 254, 255}
}

// choir is voices of many kinds: the loudest and the weakest, the highest and the lowest, of one side alone, and beyond what counts.
func choir() []psg.Voice {
	return []psg.Voice{
		{Level: 31, Volume: 31, Left: 15, Right: 15}, {}, {Level: 31}, {Volume: 31}, {Left: 15}, {Right: 15},
		{Level: 0, Volume: 31, Left: 15, Right: 0}, {Level: 15, Volume: 30, Left: 3, Right: 15}, {Level: 16, Volume: 29, Left: 14, Right: 13},
		{Level: 32, Volume: 32, Left: 16, Right: 16}, {Level: 255, Volume: 255, Left: 255, Right: 255}, {Level: 9, Volume: 26, Left: 12, Right: 11},
		{Level: 21, Volume: 63, Left: 31, Right: 240}, {Level: 5, Volume: 22, Left: 9, Right: 15},
	}
}

// many is so many voices, unlike their neighbours.
func many(n int) []psg.Voice {
	l := make([]psg.Voice, n)
	x := uint32(5)
	for i := range l {
		x = x*1664525 + 1013904223
		l[i] = psg.Voice{Level: byte(x >> 24), Volume: byte(x>>16) | 16, Left: byte(x>>12) | 8, Right: byte(x>>8) | 8}
	}
	return l
}

// P16.1: 31 less the volume, and twice what both others are less than 15.
func TestLoss(t *testing.T) {
	for _, c := range []struct {
		volume, balance, main byte
		want                  int
	}{
		{31, 15, 15, 0}, {30, 15, 15, 1}, {31, 14, 15, 2}, {31, 15, 14, 2}, {0, 15, 15, 31}, {31, 0, 15, 30}, {31, 15, 0, 30}, {0, 0, 0, 91},
		{20, 10, 5, 41}, {20, 5, 10, 41}, {1, 1, 1, 86}, {0, 15, 0, 61}, {31, 0, 0, 60},
		{32, 15, 15, 31}, {63, 15, 15, 0}, {33, 15, 15, 30}, {255, 255, 255, 0}, {31, 16, 15, 30}, {31, 31, 15, 0}, {31, 15, 16, 30}, {31, 15, 31, 0},
		{32, 16, 16, 91}, {224, 240, 240, 91}, {31, 17, 33, 56},
	} {
		if got := mix.Loss(c.volume, c.balance, c.main); got != c.want {
			t.Errorf("Loss(%d, %d, %d): %d, not %d", c.volume, c.balance, c.main, got, c.want)
		}
	}
	for volume := range 256 {
		for balance := range 256 {
			for _, main := range some() {
				want := 31 - volume%32 + 2*(15-balance%16) + 2*(15-int(main%16))
				if got := mix.Loss(byte(volume), byte(balance), main); got != want {
					t.Fatalf("Loss(%d, %d, %d): %d, not %d", volume, balance, main, got, want)
				}
				if got := mix.Loss(byte(volume), main, byte(balance)); got != want {
					t.Fatalf("Loss(%d, %d, %d): %d, not %d", volume, main, balance, got, want)
				}
			}
		}
	}
}

// P16.1: four numbers, halved for each four steps, rounded down; nothing of 48 and more, and the strongest below 0.
func TestPower(t *testing.T) {
	for loss, want := range map[int]int{
		math.MinInt: 4096, -48: 4096, -4: 4096, -3: 4096, -1: 4096, 0: 4096, 1: 3444, 2: 2896, 3: 2435, 4: 2048, 5: 1722, 6: 1448, 7: 1217,
		8: 1024, 9: 861, 10: 724, 11: 608, 13: 430, 15: 304, 19: 152, 29: 26, 44: 2, 45: 1, 46: 1, 47: 1, 48: 0, 49: 0, 51: 0, 52: 0, 60: 0, 91: 0, 256: 0, 1 << 40: 0, math.MaxInt: 0,
	} {
		if got := mix.Power(loss); got != want {
			t.Errorf("Power(%d): %d, not %d", loss, got, want)
		}
	}
	for loss := -1000; loss < 1000; loss++ {
		if got := mix.Power(loss); got != power(loss) {
			t.Errorf("Power(%d): %d, not %d", loss, got, power(loss))
		}
	}
}

// P16.2: of the loudest, the weakest, and voices between, of levels at their edges and beyond.
func TestOne(t *testing.T) {
	loud := func(level byte) psg.Voice { return psg.Voice{Level: level, Volume: 31, Left: 15, Right: 15} }
	for _, c := range []struct {
		v           psg.Voice
		left, right byte
		want        [2]int
	}{
		{loud(31), 15, 15, [2]int{126976, 126976}}, {loud(0), 15, 15, [2]int{-126976, -126976}}, {loud(15), 15, 15, [2]int{-4096, -4096}}, {loud(16), 15, 15, [2]int{4096, 4096}},
		{loud(32), 15, 15, [2]int{-126976, -126976}}, {loud(33), 15, 15, [2]int{-118784, -118784}}, {loud(63), 15, 15, [2]int{126976, 126976}}, {loud(255), 15, 15, [2]int{126976, 126976}},
		{loud(31), 0, 15, [2]int{31 * 22, 126976}}, {loud(31), 15, 0, [2]int{126976, 31 * 22}}, {loud(31), 14, 13, [2]int{31 * 2896, 31 * 2048}}, {loud(31), 255, 16, [2]int{126976, 31 * 22}},
		{psg.Voice{}, 15, 15, [2]int{0, 0}}, {psg.Voice{}, 0, 0, [2]int{0, 0}}, {psg.Voice{Level: 31}, 15, 15, [2]int{0, 0}}, {psg.Voice{Volume: 31}, 0, 0, [2]int{0, 0}},
		{psg.Voice{Level: 20, Volume: 30, Left: 15, Right: 14}, 15, 15, [2]int{9 * 3444, 9 * 2435}},
		{psg.Voice{Level: 20, Volume: 30, Left: 14, Right: 15}, 15, 15, [2]int{9 * 2435, 9 * 3444}},
		{psg.Voice{Level: 0, Volume: 14, Left: 15, Right: 0}, 0, 15, [2]int{-31, -31}},
		{psg.Voice{Level: 0, Volume: 13, Left: 15, Right: 0}, 0, 15, [2]int{0, 0}},
		{psg.Voice{Level: 17, Volume: 31, Left: 15, Right: 0}, 15, 0, [2]int{3 * 4096, 0}},
		{psg.Voice{Level: 17, Volume: 31, Left: 0, Right: 15}, 0, 15, [2]int{0, 3 * 4096}},
	} {
		if got := both(mix.One(c.v, c.left, c.right)); got != c.want {
			t.Errorf("One(%v, %d, %d): %v, not %v", c.v, c.left, c.right, got, c.want)
		}
	}
	for _, v := range slices.Concat(choir(), many(200)) {
		for _, left := range some() {
			for _, right := range some() {
				want := [2]int{side(v.Level, v.Volume, v.Left, left), side(v.Level, v.Volume, v.Right, right)}
				if got := both(mix.One(v, left, right)); got != want {
					t.Errorf("One(%v, %d, %d): %v, not %v", v, left, right, got, want)
				}
			}
		}
	}
}

// P16.2: each level and each volume.
func TestOneEach(t *testing.T) {
	for level := range 256 {
		for volume := range 256 {
			v := psg.Voice{Level: byte(level), Volume: byte(volume), Left: 15, Right: 12}
			want := [2]int{(2*(level%32) - 31) * power(31-volume%32), (2*(level%32) - 31) * power(31-volume%32+6)}
			if got := both(mix.One(v, 15, 15)); got != want {
				t.Fatalf("One(%v): %v, not %v", v, got, want)
			}
		}
	}
}

// P16.3: the sum of One, of no voice, one, two, six, and many.
func TestAll(t *testing.T) {
	if got := both(mix.All(nil, 15, 15)); got != [2]int{} {
		t.Errorf("of nil: %v", got)
	}
	if got := both(mix.All([]psg.Voice{}, 15, 15)); got != [2]int{} {
		t.Errorf("of none: %v", got)
	}
	for _, l := range [][]psg.Voice{choir()[:1], choir()[:2], choir()[6:8], choir()[:6], choir()[6:12], choir(), many(1), many(6), many(7), many(1000)} {
		for _, left := range some() {
			for _, right := range some() {
				var want [2]int
				for _, v := range l {
					one, other := mix.One(v, left, right)
					want[0] += one
					want[1] += other
				}
				if got := both(mix.All(l, left, right)); got != want || got != all(l, left, right) {
					t.Errorf("%d voices, %d, %d: %v, not %v", len(l), left, right, got, want)
				}
			}
		}
	}
}

// P16.3, P4: of very many of the loudest nothing is rounded; one more of the weakest counts.
func TestAllLoudest(t *testing.T) {
	for _, level := range []byte{0, 31} {
		l := slices.Repeat([]psg.Voice{{Level: level, Volume: 31, Left: 15, Right: 15}}, 1<<20)
		height := (2*int(level) - 31) * 4096 << 20
		if got := both(mix.All(l, 15, 15)); got != [2]int{height, height} {
			t.Errorf("level %d: %v, not %d", level, got, height)
		}
		l = append(l, psg.Voice{Level: 16, Volume: 14, Left: 0, Right: 15})
		if got := both(mix.All(l, 15, 15)); got != [2]int{height + 1, height + 215} {
			t.Errorf("level %d, and one more: %v, not %d", level, got, height)
		}
	}
}

// P16.6: in whatever order they are heard alike.
func TestOrder(t *testing.T) {
	l := slices.Concat(choir(), many(20))
	want, turned := both(mix.All(l, 13, 15)), both(mix.Turned(l, 13, 15))
	x := uint32(9)
	for range 300 {
		x = x*1664525 + 1013904223
		i, j := int(x>>8)%len(l), int(x>>20)%len(l)
		l[i], l[j] = l[j], l[i]
		if both(mix.All(l, 13, 15)) != want || both(mix.Turned(l, 13, 15)) != turned {
			t.Fatalf("%v: not %v", l, want)
		}
	}
	slices.Reverse(l)
	if both(mix.All(l, 13, 15)) != want || both(mix.Turned(l, 13, 15)) != turned {
		t.Errorf("turned about: not %v", want)
	}
}

// P3: voices that are handed in stay as they are, spare room behind a list's end too.
func TestVoicesStay(t *testing.T) {
	l := slices.Concat(choir(), many(5))
	held := slices.Clone(l)
	for n := range len(l) {
		mix.All(l[:n], 14, 13)
		mix.Turned(l[:n], 14, 13)
		if !slices.Equal(l, held) {
			t.Fatalf("%d voices are changed", n)
		}
	}
}

// band is channels that tell levels, each with a volume and a balance of its own.
func band(main byte) *psg.Psg {
	g := psg.New()
	g.Write(1, main)
	for n := range byte(6) {
		g.Write(0, n)
		g.Write(4, 0xDF-n)
		g.Write(5, 0xFE-n*0x21)
		g.Write(6, 3+n*5)
	}
	return g
}

// P16.3: of nil, of new ones, of such as no call made, and of such as aren't on nothing is heard.
func TestOfNothing(t *testing.T) {
	off := band(0xFF)
	for n := range byte(6) {
		off.Write(0, n)
		off.Write(4, 0x5F)
	}
	loud := psg.New()
	loud.Write(1, 0xFF)
	for name, g := range map[string]*psg.Psg{"nil": nil, "new": psg.New(), "not made": new(psg.Psg), "new, but loud": loud, "off": off} {
		if got := both(mix.Of(g)); got != [2]int{} {
			t.Errorf("%s: %v", name, got)
		}
	}
}

// P16.3: of channels that are on what their voices make, with the loudness of both sides.
func TestOf(t *testing.T) {
	for main := range 256 {
		g := band(byte(main))
		voices := g.Voices()
		if got, want := both(mix.Of(g)), all(voices[:], byte(main/16), byte(main%16)); got != want {
			t.Errorf("main %#x: %v, not %v", main, got, want)
		}
	}
	g := psg.New()
	for _, w := range [][2]int{{1, 0xFE}, {0, 2}, {4, 0xDF}, {5, 0xFF}, {6, 9}} {
		g.Write(w[0], byte(w[1]))
	}
	if got := both(mix.Of(g)); got != [2]int{-13 * 4096, -13 * 2896} {
		t.Errorf("one voice: %v", got)
	}
	for _, w := range [][2]int{{0, 4}, {4, 0xDF}, {5, 0xF0}, {6, 31}} {
		g.Write(w[0], byte(w[1]))
	}
	if got := both(mix.Of(g)); got != [2]int{-13*4096 + 31*4096, -13*2896 + 31*16} {
		t.Errorf("two voices: %v", got)
	}
}

// P16.3: a channel that is on without any loudness, and one that bends, aren't heard; loudness on one of three is heard.
func TestOfUnheard(t *testing.T) {
	for _, c := range []struct {
		control, balance, deep byte
		want                   [2]int
	}{
		{0xC0, 0x00, 0, [2]int{0, 0}}, {0xDF, 0xFF, 1, [2]int{0, 0}}, {0xDF, 0xFF, 4, [2]int{126976, 126976}},
		{0xC0, 0xFF, 0, [2]int{31 * 19, 31 * 19}}, {0xDF, 0x00, 0, [2]int{31 * 22, 31 * 22}}, {0xC0, 0xF0, 0, [2]int{31 * 19, 0}}, {0xC0, 0x0F, 0, [2]int{0, 31 * 19}},
		{0x5F, 0xFF, 0, [2]int{0, 0}},
	} {
		g := psg.New()
		for _, w := range [][2]byte{{1, 0xFF}, {0, 1}, {4, c.control}, {5, c.balance}, {6, 31}, {9, c.deep}} {
			g.Write(int(w[0]), w[1])
		}
		if got := both(mix.Of(g)); got != c.want {
			t.Errorf("%v: %v", c, got)
		}
	}
}

// P3: channels that are handed in stay as they are.
func TestOfStays(t *testing.T) {
	g := band(0xDC)
	voices := g.Voices()
	want := both(mix.Of(g))
	if g.Voices() != voices || both(mix.Of(g)) != want {
		t.Error("what is heard is changed")
	}
}

// P16.4, P16.6: as All of voices whose sides are changed for one another, and main's too: All, with both sides changed for one another.
func TestTurned(t *testing.T) {
	for _, l := range [][]psg.Voice{nil, {}, choir()[:1], choir()[6:7], choir()[:6], choir(), many(1), many(6), many(500)} {
		changed := slices.Clone(l)
		for i, v := range changed {
			changed[i].Left, changed[i].Right = v.Right, v.Left
		}
		for _, left := range some() {
			for _, right := range some() {
				got := both(mix.Turned(l, left, right))
				one, other := mix.All(l, left, right)
				if got != both(mix.All(changed, right, left)) || got != both(other, one) || got != all(changed, right, left) {
					t.Errorf("%d voices, %d, %d: %v", len(l), left, right, got)
				}
			}
		}
	}
	l := []psg.Voice{{Level: 31, Volume: 31, Left: 15, Right: 14}}
	if got := both(mix.Turned(l, 15, 13)); got != [2]int{31 * 1448, 126976} {
		t.Errorf("one voice: %v", got)
	}
}

// P16.5: half of the sum, and half of the difference, where they are even.
func TestMiddle(t *testing.T) {
	const far = 1 << 40
	for _, c := range []struct {
		left, right, half, apart int
		ok                       bool
	}{
		{0, 0, 0, 0, true}, {6, 2, 4, 2, true}, {2, 6, 4, -2, true}, {7, 3, 5, 2, true}, {1, 1, 1, 0, true}, {-1, 1, 0, -1, true}, {1, -1, 0, 1, true},
		{-6, 2, -2, -4, true}, {-7, -3, -5, -2, true}, {-3, -7, -5, 2, true}, {5, -9, -2, 7, true}, {-9, 5, -2, -7, true},
		{1, 0, 0, 0, false}, {0, 1, 0, 0, false}, {-1, 0, 0, 0, false}, {0, -1, 0, 0, false}, {6, 3, 0, 0, false}, {-6, 3, 0, 0, false}, {6, -3, 0, 0, false}, {-3, -6, 0, 0, false},
		{far, far, far, 0, true}, {far, -far, 0, far, true}, {-far, far, 0, -far, true}, {-far, -far, -far, 0, true},
		{far, 0, far / 2, far / 2, true}, {0, -far, -far / 2, far / 2, true}, {far - 1, far - 1, far - 1, 0, true}, {1 - far, far - 1, 0, 1 - far, true},
		{far, far - 1, 0, 0, false}, {far, 1, 0, 0, false}, {-far, 1, 0, 0, false}, {-1, -far, 0, 0, false},
		{far + 1, far + 1, 0, 0, false}, {far + 2, 0, 0, 0, false}, {0, far + 2, 0, 0, false}, {-far - 2, 0, 0, 0, false}, {0, -far - 2, 0, 0, false},
		{far + 1, 1, 0, 0, false}, {1, far + 1, 0, 0, false}, {-far - 1, 1, 0, 0, false}, {1, -far - 1, 0, 0, false}, {far + 2, far, 0, 0, false}, {-far, -far - 2, 0, 0, false},
		{math.MaxInt, math.MaxInt, 0, 0, false}, {math.MinInt, math.MinInt, 0, 0, false}, {math.MaxInt, math.MinInt, 0, 0, false}, {math.MinInt, 0, 0, 0, false}, {0, math.MinInt, 0, 0, false}, {2, math.MaxInt - 1, 0, 0, false},
	} {
		half, apart, ok := mix.Middle(c.left, c.right)
		if half != c.half || apart != c.apart || ok != c.ok {
			t.Errorf("Middle(%d, %d): %d, %d, %v", c.left, c.right, half, apart, ok)
		}
	}
	for left := -40; left <= 40; left++ {
		for right := -40; right <= 40; right++ {
			half, apart, ok := mix.Middle(left, right)
			if ok != ((left-right)&1 == 0) || ok && (half+apart != left || half-apart != right) || !ok && (half != 0 || apart != 0) {
				t.Errorf("Middle(%d, %d): %d, %d, %v", left, right, half, apart, ok)
			}
		}
	}
}

// The examples of the chapter.
func TestExamples(t *testing.T) {
	if got := mix.Power(5); got != 1722 {
		t.Errorf("Power(5): %d", got)
	}
	if got := both(mix.One(psg.Voice{Level: 31, Volume: 31, Left: 15, Right: 15}, 15, 15)); got != [2]int{126976, 126976} {
		t.Errorf("One: %v", got)
	}
	if half, apart, ok := mix.Middle(6, 2); half != 4 || apart != 2 || !ok {
		t.Errorf("Middle(6, 2): %d, %d, %v", half, apart, ok)
	}
}
