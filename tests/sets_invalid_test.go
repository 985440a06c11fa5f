package tests

import (
	"math"
	"slices"
	"testing"

	"loop.example/exopager/impl"
)

// P28: a number that is no frame, alone, in front of, between and behind frames.
func TestNumbersOfListsWithoutAFrame(t *testing.T) {
	for _, n := range noneOf(12) {
		checkNoBitsOf(t, []int{n})
		checkNoBitsOf(t, []int{n, 4})
		checkNoBitsOf(t, []int{4, n})
		checkNoBitsOf(t, []int{n, 0, 11})
		checkNoBitsOf(t, []int{0, n, 11})
		checkNoBitsOf(t, []int{11, 0, n})
		checkNoBitsOf(t, []int{n, n})
		checkNoBitsOf(t, []int{n, 3, n})
		checkNoBitsOf(t, append(allFrames(), n))
		checkNoBitsOf(t, append([]int{n}, allFrames()...))
		checkNoBitsOf(t, slices.Insert(allFrames(), 6, n))
	}
	for _, x := range noFrameLists() {
		if n, ok := impl.BitsOf(x.list); n != 0 || ok {
			t.Errorf("%s: BitsOf returns %d, %t", x.name, n, ok)
		}
	}
}

// P28: the frames next to the limits, in place of the last and of the first frame of all.
func TestNumbersNextToFrames(t *testing.T) {
	checkNoBitsOf(t, []int{-1})
	checkNoBitsOf(t, []int{12})
	checkNoBitsOf(t, []int{-1, 0, 1, 2, 3, 4, 5, 6, 7, 8, 9, 10})
	checkNoBitsOf(t, []int{1, 2, 3, 4, 5, 6, 7, 8, 9, 10, 11, 12})
	checkNoBitsOf(t, []int{12, 11, 10, 9, 8, 7, 6, 5, 4, 3, 2, 1})
	checkNoBitsOf(t, []int{-1, 1})
	checkNoBitsOf(t, []int{-1, 12})
	checkNoBitsOf(t, []int{math.MinInt, math.MaxInt})
}

// P28, P30: a number that is no frame, and a frame twice, in any order.
func TestNumbersOfListsWithTwoFaults(t *testing.T) {
	for _, n := range append(badWords(), 12, 63, 64, 70) {
		checkNoBitsOf(t, []int{5, 5, n})
		checkNoBitsOf(t, []int{n, 5, 5})
		checkNoBitsOf(t, []int{5, n, 5})
	}
}

// P28, P35: numbers that are not in range have no frames.
func TestListsOfNoNumber(t *testing.T) {
	for _, n := range noNumbers() {
		checkBitsList(t, n)
	}
	checkBitsList(t, -1)
	checkBitsList(t, 4096)
	checkBitsList(t, 4097)
	checkBitsList(t, 8191)
	checkBitsList(t, -4096)
	checkBitsList(t, math.MaxInt)
	checkBitsList(t, math.MinInt)
}

// P31: numbers that are not in range have no frame.
func TestFramesOfNoNumber(t *testing.T) {
	for _, n := range noNumbers() {
		for frame := -1; frame <= 12; frame++ {
			checkBitsHas(t, n, frame, false)
		}
	}
}

// P31: no set has a frame that does not exist, though a shift by so many may read another bit.
func TestNumbersHaveNoOtherFrame(t *testing.T) {
	for n := range 4096 {
		for _, frame := range []int{-65, -64, -63, -12, -1, 12, 13, 16, 31, 32, 63, 64, 65, math.MinInt, math.MaxInt} {
			checkBitsHas(t, n, frame, false)
		}
	}
	for _, n := range []int{0, 1, 2, 9, 1365, 2048, 4094, 4095} {
		for _, frame := range noneOf(12) {
			checkBitsHas(t, n, frame, false)
		}
	}
	for _, n := range []int{-1, -4096, 4096, 4097, math.MinInt, math.MaxInt} {
		for _, frame := range noneOf(12) {
			checkBitsHas(t, n, frame, false)
		}
	}
}

func checkNoPair(t *testing.T, a int, b int) {
	t.Helper()
	checkJoin(t, a, b, -1)
	checkWithout(t, a, b, -1)
}

// P32, P33: numbers that are not in range, at each argument and at both, though what is left of the first one may be in range.
func TestPairsWithNoNumber(t *testing.T) {
	for _, bad := range noNumbers() {
		for _, n := range []int{0, 1, 9, 2048, 2730, 4095} {
			checkNoPair(t, bad, n)
			checkNoPair(t, n, bad)
		}
		for _, other := range []int{-1, 4096, math.MinInt, math.MaxInt, bad, -bad - 1} {
			checkNoPair(t, bad, other)
			checkNoPair(t, other, bad)
		}
	}
}

// P32, P33: every number with one next to the range, or far away from it.
func TestAllNumbersWithNoNumber(t *testing.T) {
	for n := range 4096 {
		for _, bad := range []int{-4096, -2, -1, 4096, 4097, 4096 + n, n - 4096, -1 - n, 1<<32 + n, math.MinInt + n, math.MaxInt - n} {
			checkNoPair(t, n, bad)
			checkNoPair(t, bad, n)
			checkNoPair(t, bad, bad)
		}
	}
}
