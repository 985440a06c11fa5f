package tests

import "math"

// farNumbers are numbers from 64 on, or below 0, that lie around the powers of two, on both sides of 0: a program that keeps less than a whole
// number, or that multiplies before it checks, takes some of them for small ones.
func farNumbers() []int {
	list := []int{}
	for shift := 7; shift < 63; shift++ {
		for d := -64; d <= 64; d++ {
			list = append(list, 1<<shift+d, -(1<<shift)+d)
		}
	}
	for d := 0; d <= 64; d++ {
		list = append(list, math.MaxInt-d, math.MinInt+d)
	}
	return list
}

// allNumbers are those from -11000 to 11000, which has every word of a memory, and farNumbers.
func allNumbers() []int {
	list := []int{}
	for n := -11000; n <= 11000; n++ {
		list = append(list, n)
	}
	return append(list, farNumbers()...)
}
