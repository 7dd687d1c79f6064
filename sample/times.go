package sample

import "math"

// Last is MaxTime, written out, so that a test does not follow the program if
// it takes another number for it.
const Last = 1099511627776

// TooLate returns numbers that are greater than every time.
func TooLate() []int {
	return []int{Last + 1, Last + 2, Last + 64, 2 * Last, 1 << 62, math.MaxInt}
}

// Before returns numbers that are less than now; some of them are not in their
// low bits.
func Before(now int) []int {
	list := []int{math.MinInt, -Last, -1 << 32, -65, -64, -2, -1}
	for _, at := range []int{0, 1, now / 2, now - 256, now - 65, now - 64, now - 2, now - 1} {
		if at >= 0 && at < now {
			list = append(list, at)
		}
	}
	return list
}
