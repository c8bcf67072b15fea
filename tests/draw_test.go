package tests

// drawer returns a source of numbers in 0..n-1, of at most 24 bits, that depend
// only on seed, so that a failing test fails again.
func drawer(seed int) func(n int) int {
	state := uint32(seed)
	return func(n int) int {
		state = state*1664525 + 1013904223
		return int(state>>8) % n
	}
}
