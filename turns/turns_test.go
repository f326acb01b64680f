package turns_test

import (
	"math"
	"slices"
	"testing"

	"gannet/api"
	"gannet/turns"
)

// The bounds of a row's length, of its numbers, and of parts.
const (
	longest  = 4096
	greatest = 1 << 18
	farthest = 1 << 40
)

// pair is a real part and an imaginary one.
type pair = [2]int

// turn is a pair, turned back by so many quarters: times (-i) so often.
func turn(p pair, by int) pair {
	for range by % 4 {
		p = pair{p[1], -p[0]}
	}
	return p
}

// times is two pairs, multiplied.
func times(p, q pair) pair { return pair{p[0]*q[0] - p[1]*q[1], p[0]*q[1] + p[1]*q[0]} }

// of is Of, number by number, in whole numbers alone.
func of(l []int) [4]pair {
	var sums [4]pair
	for k := range sums {
		for n, v := range l {
			p := turn(pair{v, 0}, k*n)
			sums[k][0] += p[0]
			sums[k][1] += p[1]
		}
	}
	return sums
}

// fold is Fold, place by place.
func fold(l []int) [4]int {
	var sums [4]int
	for from := range sums {
		for n := from; n < len(l); n += 4 {
			sums[from] += l[n]
		}
	}
	return sums
}

// strength is Strength, of each k apart.
func strength(l []int) [4]int {
	var out [4]int
	for k, p := range of(l) {
		out[k] = p[0]*p[0] + p[1]*p[1]
	}
	return out
}

// round is Round, place by place.
func round(a, b [4]int) [4]int {
	var sums [4]int
	for i, v := range a {
		for j, w := range b {
			sums[(i+j)%4] += v * w
		}
	}
	return sums
}

// chance is numbers, unlike their neighbours, that follow from a first one.
func chance(x uint64) func() int {
	return func() int {
		x = x*6364136223846793005 + 1442695040888963407
		return int(x >> 33)
	}
}

// row is so many numbers of either sign, within the bounds.
func row(many int, first uint64) []int {
	next := chance(first)
	l := make([]int, many)
	for n := range l {
		l[n] = next()%(2*greatest+1) - greatest
	}
	return l
}

// four is four numbers of either sign, within a bound.
func four(next func() int, far int) [4]int {
	var l [4]int
	for n := range l {
		l[n] = (next()<<31|next())%(2*far+1) - far
	}
	return l
}

// all is so many numbers alike.
func all(many, v int) []int { return slices.Repeat([]int{v}, many) }

// with is a row with another number at a place.
func with(l []int, n, v int) []int {
	l = slices.Clone(l)
	l[n] = v
	return l
}

// rows is rows within the bounds, by their names.
func rows() map[string][]int {
	l := map[string][]int{
		"nil": nil, "none": {}, "one": {7}, "one below 0": {-7}, "two": {3, -5}, "three": {1, 2, 3}, "four": {1, -20, 300, -4000}, "five": {5, 4, 3, 2, 1},
		"the first": {1, 0, 0, 0}, "the second": {0, 1}, "the third": {0, 0, 1, 0}, "the fourth": {0, 0, 0, 1}, "the fifth": {0, 0, 0, 0, 1},
		"the greatest": {greatest}, "the least": {-greatest}, "at the bounds": {greatest, -greatest, -greatest, greatest, greatest},
		"all greatest": all(longest, greatest), "all least": all(longest, -greatest), "nearly all greatest": with(all(longest, greatest), 77, greatest-1),
		"all greatest, but the last": all(longest-1, greatest), "zeros": all(longest, 0),
		"by turns":          slices.Repeat([]int{greatest, -greatest}, longest/2),
		"by quarters":       slices.Repeat([]int{greatest, greatest, -greatest, -greatest}, longest/4),
		"nearly by quarter": with(slices.Repeat([]int{-greatest, greatest, greatest, -greatest}, longest/4), 4095, -greatest+1),
	}
	for many := range 40 {
		l["of chance "+string(rune('A'+many))] = row(many, uint64(many))
	}
	for _, many := range []int{1000, 4093, 4094, 4095, 4096} {
		l["long, of chance "+string(rune('A'+many%16))] = row(many, uint64(many))
	}
	return l
}

// refused is rows that are too long, or beyond, with their errors.
func refused() map[string]struct {
	l    []int
	want api.Errno
} {
	return map[string]struct {
		l    []int
		want api.Errno
	}{
		"too long":                  {all(longest+1, 1), api.ErrLong},
		"too long, of zeros":        {all(longest+1, 0), api.ErrLong},
		"far too long":              {all(3*longest, greatest), api.ErrLong},
		"beyond":                    {[]int{greatest + 1}, api.ErrRange},
		"beyond, below 0":           {[]int{-greatest - 1}, api.ErrRange},
		"beyond, at the end":        {[]int{1, 2, 3, 4, 5, greatest + 1}, api.ErrRange},
		"the last one beyond":       {with(all(longest, 1), longest-1, -greatest-1), api.ErrRange},
		"beyond, in sum within":     {[]int{greatest + 1, 0, 0, 0, -greatest - 1}, api.ErrRange},
		"the greatest number":       {[]int{0, math.MaxInt}, api.ErrRange},
		"the least number":          {[]int{math.MinInt, 0}, api.ErrRange},
		"too long and beyond":       {with(all(longest+1, 1), 0, greatest+1), api.ErrLong},
		"too long, and beyond last": {with(all(longest+1, 1), longest, math.MinInt), api.ErrLong},
	}
}

// P17.1: the sums of each fourth number.
func TestFold(t *testing.T) {
	for name, l := range rows() {
		if got, e := turns.Fold(l); e != api.OK || got != fold(l) {
			t.Errorf("%s: %v, %d, not %v", name, got, e, fold(l))
		}
	}
	for _, c := range []struct {
		l    []int
		want [4]int
	}{
		{nil, [4]int{}}, {[]int{7}, [4]int{7}}, {[]int{1, 2}, [4]int{1, 2}}, {[]int{1, 2, 3, 4}, [4]int{1, 2, 3, 4}}, {[]int{1, 2, 3, 4, 5}, [4]int{6, 2, 3, 4}},
		{[]int{1, 2, 3, 4, 5, 6, 7, 8, -9}, [4]int{-3, 8, 10, 12}}, {all(longest, greatest), [4]int{1 << 28, 1 << 28, 1 << 28, 1 << 28}},
	} {
		if got, e := turns.Fold(c.l); e != api.OK || got != c.want {
			t.Errorf("%d numbers: %v, %d, not %v", len(c.l), got, e, c.want)
		}
	}
}

// P17.1, P17.2, P17.4, P2: too long ahead of beyond; with an error all is 0.
func TestRefused(t *testing.T) {
	for name, c := range refused() {
		if got, e := turns.Fold(c.l); e != c.want || got != [4]int{} {
			t.Errorf("Fold, %s: %v, %d, not %d", name, got, e, c.want)
		}
		if got, e := turns.Of(c.l); e != c.want || got != [4]pair{} {
			t.Errorf("Of, %s: %v, %d, not %d", name, got, e, c.want)
		}
		if got, e := turns.Strength(c.l); e != c.want || got != [4]int{} {
			t.Errorf("Strength, %s: %v, %d, not %d", name, got, e, c.want)
		}
	}
}

// P17.2: the sum of all numbers, each turned by as many quarters as its place and k make.
func TestOf(t *testing.T) {
	for name, l := range rows() {
		if got, e := turns.Of(l); e != api.OK || got != of(l) {
			t.Errorf("%s: %v, %d, not %v", name, got, e, of(l))
		}
	}
	for _, c := range []struct {
		l    []int
		want [4]pair
	}{
		{nil, [4]pair{}},
		{[]int{1, 0, 0, 0}, [4]pair{{1, 0}, {1, 0}, {1, 0}, {1, 0}}},
		{[]int{0, 1}, [4]pair{{1, 0}, {0, -1}, {-1, 0}, {0, 1}}},
		{[]int{0, 0, 1}, [4]pair{{1, 0}, {-1, 0}, {1, 0}, {-1, 0}}},
		{[]int{0, 0, 0, 1}, [4]pair{{1, 0}, {0, 1}, {-1, 0}, {0, -1}}},
		{[]int{0, 0, 0, 0, 1}, [4]pair{{1, 0}, {1, 0}, {1, 0}, {1, 0}}},
		{[]int{1, 2, 3, 4}, [4]pair{{10, 0}, {-2, 2}, {-2, 0}, {-2, -2}}},
		{all(longest, greatest), [4]pair{{1 << 30, 0}}},
		{all(longest, -greatest), [4]pair{{-1 << 30, 0}}},
		{slices.Repeat([]int{greatest, -greatest}, longest/2), [4]pair{2: {1 << 30, 0}}},
		{slices.Repeat([]int{greatest, greatest, -greatest, -greatest}, longest/4), [4]pair{1: {1 << 29, -1 << 29}, 3: {1 << 29, 1 << 29}}},
	} {
		if got, e := turns.Of(c.l); e != api.OK || got != c.want {
			t.Errorf("%d numbers: %v, %d, not %v", len(c.l), got, e, c.want)
		}
	}
}

// P17.3: what Of gives of four numbers is turned back, of whatever sign.
func TestBackOf(t *testing.T) {
	next := chance(3)
	for range 5000 {
		l := four(next, greatest)
		b, _ := turns.Of(l[:])
		if got, e := turns.Back(b); e != api.OK || got != l {
			t.Fatalf("%v of %v: %v, %d", b, l, got, e)
		}
	}
	for i := range 625 {
		l := [4]int{i%5 - 2, i/5%5 - 2, i/25%5 - 2, i/125 - 2}
		b, _ := turns.Of(l[:])
		if got, e := turns.Back(b); e != api.OK || got != l {
			t.Fatalf("%v of %v: %v, %d", b, l, got, e)
		}
	}
	for _, l := range rows() {
		b, _ := turns.Of(l)
		if got, e := turns.Back(b); e != api.OK || got != fold(l) {
			t.Errorf("%v: %v, %d, not %v", b, got, e, fold(l))
		}
	}
}

// P17.3: numbers may be greater than those of a row, up to parts at the bounds.
func TestBackGreat(t *testing.T) {
	for _, l := range [][4]int{
		{greatest + 1, 0, 0, 0}, {0, -greatest - 1, 0, 0}, {1 << 38, 1 << 38, 1 << 38, 1 << 38}, {-1 << 38, -1 << 38, -1 << 38, -1 << 38},
		{farthest, 0, 0, 0}, {0, farthest, 0, 0}, {0, 0, farthest, 0}, {0, 0, 0, farthest}, {-farthest, 0, 0, 0}, {0, -farthest, 0, 0}, {0, 0, -farthest, 0}, {0, 0, 0, -farthest},
		{1 << 38, -1 << 38, 1 << 38, -1 << 38}, {1 << 39, 1 << 39, 0, 0}, {1 << 39, 0, -1 << 39, 0}, {farthest - 1, 1, 0, 0}, {farthest - 1, 0, 1, 0}, {1, 2, 3, -farthest + 6},
		{1 << 39, 1 << 39, -1 << 39, 1 << 39}, {1<<39 - 1, 1 << 39, -1<<39 + 1, 1 << 39}, {1<<39 - 1, 1<<39 - 1, -1<<39 + 1, 1<<39 - 1},
	} {
		b := of(l[:])
		if got, e := turns.Back(b); e != api.OK || got != l {
			t.Errorf("%v of %v: %v, %d", b, l, got, e)
		}
	}
	next := chance(5)
	for range 5000 {
		l := four(next, 1<<38)
		if got, e := turns.Back(of(l[:])); e != api.OK || got != l {
			t.Fatalf("of %v: %v, %d", l, got, e)
		}
	}
}

// P17.3: ErrRange of a part beyond the bounds, whether there are four such numbers, or not.
func TestBackBeyond(t *testing.T) {
	for _, l := range [][4]int{{farthest + 1}, {-farthest - 1}, {0, farthest + 1}, {0, 0, 0, -farthest - 1}, {1 << 38, 1 << 38, 1 << 38, 1<<38 + 1}, {math.MinInt >> 3}, {math.MaxInt >> 3}} {
		if got, e := turns.Back(of(l[:])); e != api.ErrRange || got != [4]int{} {
			t.Errorf("of %v: %v, %d", l, got, e)
		}
	}
	for k := range 4 {
		for part := range 2 {
			for _, v := range []int{farthest + 1, -farthest - 1, math.MaxInt, math.MinInt} {
				b := [4]pair{{1, 1}, {2, 0}, {0, 3}, {4, 5}}
				b[k][part] = v
				if got, e := turns.Back(b); e != api.ErrRange || got != [4]int{} {
					t.Errorf("%v: %v, %d", b, got, e)
				}
			}
		}
	}
}

// P17.3: ErrForm of parts that no four whole numbers make.
func TestBackForm(t *testing.T) {
	for name, b := range map[string][4]pair{
		"a sum of 1":                     {{1, 0}},
		"a sum of 2":                     {{2, 0}},
		"a sum of -3":                    {{-3, 0}},
		"halves":                         {{1, 0}, {1, 0}, {1, 0}, {-1, 0}},
		"one apart":                      {{5, 0}, {4, 0}, {4, 0}, {4, 0}},
		"twice of another parity":        {{10, 0}, {-2, 2}, {-1, 0}, {-2, -2}},
		"not real":                       {{0, 4}},
		"not real, twice":                {{4, 0}, {4, 0}, {4, 4}, {4, 0}},
		"not real, once":                 {{0, 0}, {4, 0}},
		"all turned":                     {{0, 1}, {0, 1}, {0, 1}, {0, 1}},
		"not mirrored":                   {{10, 0}, {-2, 2}, {-2, 0}, {-2, 2}},
		"mirrored the other way":         {{10, 0}, {-2, 2}, {-2, 0}, {2, 2}},
		"real, but unlike":               {{0, 0}, {4, 0}, {0, 0}, {-4, 0}},
		"unlike by one":                  {{10, 0}, {-2, 2}, {-2, 0}, {-2, -3}},
		"at the bounds":                  {{farthest, farthest}, {farthest, farthest}, {farthest, farthest}, {farthest, farthest}},
		"at the bounds below":            {{-farthest, -farthest}, {-farthest, -farthest}, {-farthest, -farthest}, {-farthest, -farthest}},
		"at the bounds, by turns":        {{farthest, -farthest}, {-farthest, farthest}, {farthest, -farthest}, {-farthest, farthest}},
		"one part at the bound":          {3: {0, farthest}},
		"great, and one apart":           {{farthest - 1, 0}, {farthest, 0}, {farthest, 0}, {farthest, 0}},
		"great, and not real by so much": {{farthest, 1}, {farthest, 0}, {farthest, 0}, {farthest, 0}},
	} {
		if got, e := turns.Back(b); e != api.ErrForm || got != [4]int{} {
			t.Errorf("%s: %v, %d", name, got, e)
		}
	}
}

// P17.3: of all small parts those that four numbers make are the ones that are mirrored, and whose sums four divides.
func TestBackEach(t *testing.T) {
	made := map[[4]pair][4]int{}
	for i := range 7 * 7 * 7 * 7 {
		l := [4]int{i%7 - 3, i/7%7 - 3, i/49%7 - 3, i/343 - 3}
		made[of(l[:])] = l
	}
	for i := range 390625 {
		var b [4]pair
		for n, rest := 0, i; n < 8; n, rest = n+1, rest/5 {
			b[n/2][n%2] = rest%5 - 2
		}
		// Numbers of which all parts are so small are themselves no greater.
		want, ok := made[b]
		got, e := turns.Back(b)
		if got != want || (e == api.OK) != ok || (e == api.ErrForm) == ok {
			t.Fatalf("%v: %v, %d, not %v", b, got, e, want)
		}
	}
}

// P17.4: the sum of both parts' squares, of what Of has.
func TestStrength(t *testing.T) {
	for name, l := range rows() {
		got, e := turns.Strength(l)
		b, _ := turns.Of(l)
		for k, p := range b {
			if e != api.OK || got[k] != p[0]*p[0]+p[1]*p[1] {
				t.Errorf("%s: %v, %d, Of %v", name, got, e, b)
			}
		}
		if got != strength(l) {
			t.Errorf("%s: %v, not %v", name, got, strength(l))
		}
	}
	for _, c := range []struct {
		l    []int
		want [4]int
	}{
		{nil, [4]int{}}, {[]int{1, 2, 3, 4}, [4]int{100, 8, 4, 8}}, {[]int{0, -3}, [4]int{9, 9, 9, 9}},
		{all(longest, greatest), [4]int{1 << 60}}, {all(longest, -greatest), [4]int{1 << 60}},
		// No number of a float's is as near to these.
		{with(all(longest, greatest), 0, greatest-1), [4]int{1<<60 - 1<<31 + 1, 1, 1, 1}},
		{with(all(longest, greatest), 1, greatest-3), [4]int{1<<60 - 3<<31 + 9, 9, 9, 9}},
		{slices.Repeat([]int{greatest, greatest, -greatest, -greatest}, longest/4), [4]int{0, 1 << 59, 0, 1 << 59}},
	} {
		if got, e := turns.Strength(c.l); e != api.OK || got != c.want {
			t.Errorf("%d numbers: %v, %d, not %v", len(c.l), got, e, c.want)
		}
	}
}

// pairs is rows of four within the bounds, two by two.
func pairs() [][2][4]int {
	l := [][2][4]int{
		{}, {{1}, {1}}, {{1, 2, 3, 4}, {}}, {{}, {5, 6, 7, 8}}, {{1, 2, 3, 4}, {5, 6, 7, 8}}, {{1, -2, 3, -4}, {-5, 6, 7, -8}}, {{-1, -1, -1, -1}, {1, 1, 1, 1}},
		{{greatest, greatest, greatest, greatest}, {greatest, greatest, greatest, greatest}},
		{{-greatest, -greatest, -greatest, -greatest}, {greatest, greatest, greatest, greatest}},
		{{-greatest, -greatest, -greatest, -greatest}, {-greatest, -greatest, -greatest, -greatest}},
		{{greatest, greatest, -greatest, -greatest}, {greatest, -greatest, -greatest, greatest}},
		{{greatest, greatest - 1, greatest, greatest}, {greatest, greatest, greatest - 1, greatest - 1}},
	}
	for i := range 4 {
		for j := range 4 {
			var a, b [4]int
			a[i], b[j] = 3, -greatest
			l = append(l, [2][4]int{a, b}, [2][4]int{b, a}, [2][4]int{a, {1, 20, 300, -4000}})
		}
	}
	next := chance(9)
	for range 3000 {
		l = append(l, [2][4]int{four(next, greatest), four(next, greatest)})
	}
	return l
}

// P17.5: at each place the sum of the products whose places go there.
func TestRound(t *testing.T) {
	for _, c := range pairs() {
		if got, e := turns.Round(c[0], c[1]); e != api.OK || got != round(c[0], c[1]) {
			t.Fatalf("%v: %v, %d, not %v", c, got, e, round(c[0], c[1]))
		}
	}
	for _, c := range [][3][4]int{
		{{1, 2, 3, 4}, {5, 6, 7, 8}, {66, 68, 66, 60}}, {{1, 2, 3, 4}, {0, 1}, {4, 1, 2, 3}}, {{0, 0, 0, 2}, {0, 0, 0, -3}, {0, 0, -6, 0}},
		{{greatest, greatest, greatest, greatest}, {greatest, greatest, greatest, greatest}, {1 << 38, 1 << 38, 1 << 38, 1 << 38}},
		{{greatest}, {0, 0, -greatest}, {0, 0, -1 << 36}},
	} {
		if got, e := turns.Round(c[0], c[1]); e != api.OK || got != c[2] {
			t.Errorf("%v: %v, %d", c, got, e)
		}
	}
}

// P17.5, P2: ErrRange of a number beyond, in either row, at any place; with it all is 0.
func TestRoundBeyond(t *testing.T) {
	for n := range 4 {
		for _, v := range []int{greatest + 1, -greatest - 1, 1 << 40, math.MaxInt, math.MinInt} {
			l := [4]int{1, 2, 3, 4}
			l[n] = v
			for _, c := range [][2][4]int{{l, {1, 2, 3, 4}}, {{1, 2, 3, 4}, l}, {l, {}}, {{}, l}, {l, l}} {
				if got, e := turns.Round(c[0], c[1]); e != api.ErrRange || got != [4]int{} {
					t.Errorf("%v: %v, %d", c, got, e)
				}
			}
		}
	}
}

// wave is 32 levels that are up and down by turns, so many of each.
func wave(each int, up, down byte) [32]byte {
	var l [32]byte
	for n := range l {
		l[n] = down
		if n/each%2 == 0 {
			l[n] = up
		}
	}
	return l
}

// P17.6: Of the levels, each twice less 31.
func TestWave(t *testing.T) {
	slope := [32]byte{}
	mixed := [32]byte{}
	next := chance(11)
	for n := range slope {
		slope[n] = byte(n)
		mixed[n] = byte(next())
	}
	for name, c := range map[string]struct {
		l    [32]byte
		want [4]pair
	}{
		"zeros":          {[32]byte{}, [4]pair{{-992, 0}}},
		"all 31":         {wave(1, 31, 31), [4]pair{{992, 0}}},
		"all 16":         {wave(1, 16, 16), [4]pair{{32, 0}}},
		"all 32":         {wave(1, 32, 32), [4]pair{{-992, 0}}},
		"all 255":        {wave(1, 255, 255), [4]pair{{992, 0}}},
		"all 47":         {wave(1, 47, 47), [4]pair{{-32, 0}}},
		"once":           {wave(16, 31, 0), [4]pair{}},
		"twice":          {wave(8, 31, 0), [4]pair{}},
		"four times":     {wave(4, 31, 0), [4]pair{}},
		"eight times":    {wave(2, 31, 0), [4]pair{1: {496, -496}, 3: {496, 496}}},
		"sixteen times":  {wave(1, 31, 0), [4]pair{2: {992, 0}}},
		"beyond, by two": {wave(2, 255, 224), [4]pair{1: {496, -496}, 3: {496, 496}}},
		"a slope":        {slope, of(heights(slope))},
		"mixed":          {mixed, of(heights(mixed))},
	} {
		if got := turns.Wave(c.l); got != c.want || got != of(heights(c.l)) {
			t.Errorf("%s: %v, not %v", name, got, c.want)
		}
	}
	for n := range 32 {
		for level := range 256 {
			l := wave(16, 9, 20)
			l[n] = byte(level)
			got := turns.Wave(l)
			b, e := turns.Of(heights(l))
			if e != api.OK || got != b {
				t.Fatalf("level %d at %d: %v, not %v", level, n, got, b)
			}
		}
	}
}

// heights is a wave's levels, as they are heard.
func heights(l [32]byte) []int {
	var out []int
	for _, level := range l {
		out = append(out, int(level&31)*2-31)
	}
	return out
}

// P17.7: twice is real, and not at all; once and thrice are mirrored.
func TestMirrored(t *testing.T) {
	for name, l := range rows() {
		b, _ := turns.Of(l)
		if b[0][1] != 0 || b[2][1] != 0 || b[1][0] != b[3][0] || b[1][1] != -b[3][1] {
			t.Errorf("%s: %v", name, b)
		}
		if s, _ := turns.Strength(l); s[1] != s[3] {
			t.Errorf("%s: strengths %v", name, s)
		}
	}
}

// P17.7: one place later each k is turned by k quarters, whether the last number comes round, or there was none.
func TestLater(t *testing.T) {
	for name, l := range rows() {
		before, _ := turns.Of(l)
		var later [][]int
		if len(l) < longest {
			later = append(later, slices.Concat([]int{0}, l))
		}
		if len(l)%4 == 0 && len(l) > 0 {
			later = append(later, slices.Concat(l[len(l)-1:], l[:len(l)-1]))
		}
		for _, m := range later {
			after, e := turns.Of(m)
			for k, p := range after {
				if e != api.OK || p != turn(before[k], k) {
					t.Errorf("%s: %v, later %v", name, before, after)
				}
			}
		}
	}
}

// P17.7: of two rows, laid over one another, there is what there is of each, multiplied.
func TestMultiplied(t *testing.T) {
	for _, c := range pairs() {
		l, _ := turns.Round(c[0], c[1])
		a, _ := turns.Of(c[0][:])
		b, _ := turns.Of(c[1][:])
		var both [4]pair
		for k := range both {
			both[k] = times(a[k], b[k])
		}
		if got := of(l[:]); got != both {
			t.Fatalf("%v: %v, not %v", c, got, both)
		}
		if got, e := turns.Back(both); e != api.OK || got != l {
			t.Fatalf("%v: back %v, %d, not %v", c, got, e, l)
		}
		if other, _ := turns.Round(c[1], c[0]); other != l {
			t.Fatalf("%v: %v, the other way round %v", c, l, other)
		}
	}
}

// P3: rows that the caller holds stay as they are, spare room behind their ends too; so do arrays.
func TestStay(t *testing.T) {
	l := row(longest+5, 21)
	l[longest+2] = greatest + 1
	held := slices.Clone(l)
	for _, n := range []int{0, 1, 4, 5, 100, longest, longest + 1, longest + 5} {
		turns.Fold(l[:n])
		turns.Of(l[:n])
		turns.Strength(l[:n])
		if !slices.Equal(l, held) {
			t.Fatalf("%d numbers are changed", n)
		}
	}
	a, b, levels, parts := [4]int{1, 2, 3, 4}, [4]int{5, 6, 7, 8}, wave(3, 200, 7), [4]pair{{10, 0}, {-2, 2}, {-2, 0}, {-2, -2}}
	turns.Round(a, b)
	turns.Wave(levels)
	if turns.Back(parts); a != [4]int{1, 2, 3, 4} || b != [4]int{5, 6, 7, 8} || levels != wave(3, 200, 7) || parts != [4]pair{{10, 0}, {-2, 2}, {-2, 0}, {-2, -2}} {
		t.Error("an array is changed")
	}
}

// P5: nothing is kept from call to call, not even of what was refused.
func TestKept(t *testing.T) {
	l := []int{1, 2, 3, 4}
	want, _ := turns.Of(l)
	for _, c := range refused() {
		turns.Of(c.l)
		turns.Back([4]pair{{1, 1}})
		if got, e := turns.Of(l); e != api.OK || got != want {
			t.Fatalf("%v, not %v", got, want)
		}
	}
}

// The examples of the chapter.
func TestExamples(t *testing.T) {
	if b, e := turns.Of([]int{1, 0, 0, 0}); e != api.OK || b != [4]pair{{1, 0}, {1, 0}, {1, 0}, {1, 0}} {
		t.Errorf("%v, %d", b, e)
	}
	b, e := turns.Of([]int{0, 1})
	if e != api.OK || b != [4]pair{{1, 0}, {0, -1}, {-1, 0}, {0, 1}} {
		t.Errorf("%v, %d", b, e)
	}
	if l, e := turns.Back(b); e != api.OK || l != [4]int{0, 1, 0, 0} {
		t.Errorf("%v, %d", l, e)
	}
}
