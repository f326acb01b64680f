// Package count counts clocks down, from step to step. Both noise and channels of sound go on by it.
package count

// Down lets so many clocks go by (below 0: none), where some are left till a step, and each step but that one has the same number of them: how many steps come, and how many clocks are left then. Both left and period are at least 1.
func Down(n, left, period int64) (int64, int64) {
	// What is beyond the first step is reckoned alone, as the greatest n and a period together would go round.
	beyond := max(n, 0) - left
	if beyond < 0 {
		return 0, -beyond
	}
	return 1 + beyond/period, period - beyond%period
}
