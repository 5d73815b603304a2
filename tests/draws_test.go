package tests

// drawsFrom returns a function that draws one of the numbers 0, 1, ..., n - 1. The draws are the same
// whenever the start is.
func drawsFrom(start int) func(n int) int {
	number := start*7919 + 1
	return func(n int) int {
		number = (number*1103515245 + 12345) % (1 << 31)
		return number >> 8 % n
	}
}
