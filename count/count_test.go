package count_test

import (
	"math"
	"testing"

	"gannet/count"
)

// slowly is Down, clock by clock.
func slowly(n, left, period int64) (int64, int64) {
	steps := int64(0)
	for range n {
		if left--; left == 0 {
			steps, left = steps+1, period
		}
	}
	return steps, left
}

// Whatever is left and however long steps are, it is as it is clock by clock.
func TestDown(t *testing.T) {
	for n := int64(-2); n < 40; n++ {
		for left := int64(1); left < 12; left++ {
			for period := int64(1); period < 12; period++ {
				steps, rest := count.Down(n, left, period)
				want, wanted := slowly(n, left, period)
				if steps != want || rest != wanted {
					t.Errorf("Down(%d, %d, %d): %d steps, not %d; %d left, not %d", n, left, period, steps, want, rest, wanted)
				}
			}
		}
	}
}

// Of the least and the greatest numbers nothing goes round.
func TestDownEdges(t *testing.T) {
	for _, c := range []struct{ n, left, period, steps, rest int64 }{
		{math.MinInt64, 1, 1, 0, 1},
		{math.MinInt64, math.MaxInt64, 5, 0, math.MaxInt64},
		{math.MaxInt64, 1, 1, math.MaxInt64, 1},
		{math.MaxInt64, 1, math.MaxInt64, 1, 1},
		{math.MaxInt64, math.MaxInt64, 7, 1, 7},
		{math.MaxInt64, 7, math.MaxInt64, 1, 7},
		{math.MaxInt64 - 1, math.MaxInt64, 7, 0, 1},
	} {
		if steps, rest := count.Down(c.n, c.left, c.period); steps != c.steps || rest != c.rest {
			t.Errorf("Down(%d, %d, %d): %d steps, %d left", c.n, c.left, c.period, steps, rest)
		}
	}
}
