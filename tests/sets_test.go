package tests

import (
	"slices"
	"testing"

	"loop.example/exopager/impl"
)

func TestConstantsOfSets(t *testing.T) {
	if impl.BitsMax != 4095 {
		t.Errorf("the largest number is %d", impl.BitsMax)
	}
}

// P28, P30: lists with one, some and all frames, in ascending, descending and mixed orders.
func TestNumbersOfWrittenLists(t *testing.T) {
	checkBitsOf(t, []int{0}, 1)
	checkBitsOf(t, []int{1}, 2)
	checkBitsOf(t, []int{11}, 2048)
	checkBitsOf(t, []int{0, 3}, 9)
	checkBitsOf(t, []int{3, 0}, 9)
	checkBitsOf(t, []int{0, 11}, 2049)
	checkBitsOf(t, []int{11, 0}, 2049)
	checkBitsOf(t, []int{2, 5, 7}, 164)
	checkBitsOf(t, []int{7, 5, 2}, 164)
	checkBitsOf(t, []int{5, 7, 2}, 164)
	checkBitsOf(t, []int{8, 9, 10, 11}, 3840)
	checkBitsOf(t, []int{10, 0, 6, 2, 8, 4}, 1365)
	checkBitsOf(t, []int{1, 2, 3, 4, 5, 6, 7, 8, 9, 10, 11}, 4094)
	checkBitsOf(t, []int{10, 9, 8, 7, 6, 5, 4, 3, 2, 1, 0}, 2047)
	checkBitsOf(t, []int{0, 1, 2, 3, 4, 5, 6, 7, 8, 9, 10, 11}, 4095)
	checkBitsOf(t, []int{11, 10, 9, 8, 7, 6, 5, 4, 3, 2, 1, 0}, 4095)
	checkBitsOf(t, []int{6, 0, 11, 3, 9, 1, 10, 4, 2, 8, 5, 7}, 4095)
}

// P28, P35: no frames.
func TestNumberOfNoFrames(t *testing.T) {
	checkBitsOf(t, nil, 0)
	checkBitsOf(t, []int{}, 0)
	checkBitsOf(t, make([]int, 0, 12), 0)
	checkBitsOf(t, allFrames()[:0], 0)
	checkBitsOf(t, []int{-1, 12}[:0], 0)
	checkBitsOf(t, impl.BitsList(0), 0)
	checkBitsOf(t, impl.BitsList(-1), 0)
}

// P28, P29: lists of numbers, written out.
func TestWrittenListsOfNumbers(t *testing.T) {
	checkBitsList(t, 0)
	checkBitsList(t, 1, 0)
	checkBitsList(t, 2, 1)
	checkBitsList(t, 3, 0, 1)
	checkBitsList(t, 9, 0, 3)
	checkBitsList(t, 164, 2, 5, 7)
	checkBitsList(t, 1365, 0, 2, 4, 6, 8, 10)
	checkBitsList(t, 2047, 0, 1, 2, 3, 4, 5, 6, 7, 8, 9, 10)
	checkBitsList(t, 2048, 11)
	checkBitsList(t, 2049, 0, 11)
	checkBitsList(t, 4094, 1, 2, 3, 4, 5, 6, 7, 8, 9, 10, 11)
	checkBitsList(t, 4095, 0, 1, 2, 3, 4, 5, 6, 7, 8, 9, 10, 11)
}

// P28, P30: every list of up to four frames, and its other direction.
func TestNumbersOfAllShortLists(t *testing.T) {
	for _, list := range shortLists() {
		want := sumOf(list)
		checkBitsOf(t, list, want)
		checkBitsOf(t, backward(list), want)
		checkBitsList(t, want, slices.Sorted(slices.Values(list))...)
	}
}

// P28, P30: the frames of every set in several orders.
func TestNumbersOfAllSets(t *testing.T) {
	for n := range 4096 {
		for _, list := range orders(framesOfNumber(n)) {
			checkBitsOf(t, list, n)
		}
	}
}

// P28, P29, P31: every number with its list, and with each frame.
func TestListsOfAllNumbers(t *testing.T) {
	for n := range 4096 {
		list := impl.BitsList(n)
		if want := framesOfNumber(n); !slices.Equal(list, want) {
			t.Errorf("BitsList(%d) is %v, not %v", n, list, want)
		}
		if sumOf(list) != n {
			t.Errorf("BitsList(%d) is %v, which have another sum", n, list)
		}
		checkBitsOf(t, list, n)
		checkBitsOf(t, backward(list), n)
		for frame := range 12 {
			checkBitsHas(t, n, frame, numberHas(n, frame))
			checkBitsHas(t, n, frame, slices.Contains(list, frame))
		}
	}
}

// P30: the frames of every set, of which one is there twice: next to itself, first, last, and in the middle.
func TestOneFrameOfEachSetTwice(t *testing.T) {
	for n := range 4096 {
		list := framesOfNumber(n)
		for at, frame := range list {
			for _, to := range []int{0, len(list) / 2, at, at + 1, len(list)} {
				twice := slices.Insert(slices.Clone(list), to, frame)
				checkNoBitsOf(t, twice)
				checkNoBitsOf(t, backward(twice))
			}
		}
	}
}

// P30: a frame that is there twice, at places that are written out.
func TestWrittenFramesTwice(t *testing.T) {
	checkNoBitsOf(t, []int{0, 0})
	checkNoBitsOf(t, []int{1, 1})
	checkNoBitsOf(t, []int{11, 11})
	checkNoBitsOf(t, []int{4, 4, 9})
	checkNoBitsOf(t, []int{9, 4, 4})
	checkNoBitsOf(t, []int{4, 9, 4})
	checkNoBitsOf(t, []int{0, 5, 11, 0})
	checkNoBitsOf(t, []int{11, 5, 0, 11})
	checkNoBitsOf(t, []int{1, 6, 3, 6, 8})
	checkNoBitsOf(t, []int{0, 1, 2, 3, 4, 5, 6, 7, 8, 9, 10, 11, 11})
	checkNoBitsOf(t, []int{0, 1, 2, 3, 4, 5, 6, 7, 8, 9, 10, 11, 0})
	checkNoBitsOf(t, []int{0, 1, 2, 3, 4, 5, 5, 6, 7, 8, 9, 10})
}

// P30: a frame that is there twice, at any two places, and frames that are there more often.
func TestFramesTwice(t *testing.T) {
	for _, x := range append(twiceLists(), oftenLists()...) {
		if n, ok := impl.BitsOf(x.list); n != 0 || ok {
			t.Errorf("%s: BitsOf returns %d, %t", x.name, n, ok)
		}
	}
}

// P31
func TestWrittenFramesOfNumbers(t *testing.T) {
	checkBitsHas(t, 9, 0, true)
	checkBitsHas(t, 9, 1, false)
	checkBitsHas(t, 9, 2, false)
	checkBitsHas(t, 9, 3, true)
	checkBitsHas(t, 9, 4, false)
	checkBitsHas(t, 1, 0, true)
	checkBitsHas(t, 4094, 0, false)
	checkBitsHas(t, 2048, 11, true)
	checkBitsHas(t, 2047, 11, false)
	for frame := range 12 {
		checkBitsHas(t, 0, frame, false)
		checkBitsHas(t, 4095, frame, true)
	}
}

// P32, P33
func TestWrittenPairsOfNumbers(t *testing.T) {
	checkJoin(t, 9, 3, 11)
	checkJoin(t, 3, 9, 11)
	checkJoin(t, 1, 2048, 2049)
	checkJoin(t, 2048, 2048, 2048)
	checkJoin(t, 1365, 2730, 4095)
	checkJoin(t, 4094, 1, 4095)
	checkWithout(t, 9, 3, 8)
	checkWithout(t, 3, 9, 2)
	checkWithout(t, 1, 2048, 1)
	checkWithout(t, 2049, 2048, 1)
	checkWithout(t, 2049, 1, 2048)
	checkWithout(t, 1365, 2730, 1365)
	checkWithout(t, 2047, 4095, 0)
}

// P32, P33, P34: every number with itself, with that of no frame, and with that of all frames.
func TestNumbersWithThemselvesAndEdges(t *testing.T) {
	for n := range 4096 {
		checkJoin(t, n, n, n)
		checkJoin(t, n, 0, n)
		checkJoin(t, 0, n, n)
		checkJoin(t, n, 4095, 4095)
		checkJoin(t, 4095, n, 4095)
		checkJoin(t, n, 4095-n, 4095)
		checkWithout(t, n, n, 0)
		checkWithout(t, n, 0, n)
		checkWithout(t, 0, n, 0)
		checkWithout(t, n, 4095, 0)
		checkWithout(t, 4095, n, 4095-n)
		checkWithout(t, n, 4095-n, n)
	}
}

// P32, P33, P34: every number with some others, frame by frame.
func TestPairsOfNumbers(t *testing.T) {
	for _, b := range someNumbers() {
		for a := range 4096 {
			joined, less := 0, 0
			for frame, value := range frameValues {
				if numberHas(a, frame) || numberHas(b, frame) {
					joined += value
				}
				if numberHas(a, frame) && !numberHas(b, frame) {
					less += value
				}
			}
			checkJoin(t, a, b, joined)
			checkJoin(t, b, a, joined)
			checkJoin(t, joined, a, joined)
			checkJoin(t, joined, b, joined)
			checkWithout(t, a, b, less)
			checkWithout(t, b, a, joined-a)
			checkWithout(t, a, less, a-less)
			checkJoin(t, less, a-less, a)
		}
	}
}

// P31, P32, P33, P34: what the functions tell of pairs of numbers, held against one another.
func TestPairsOfNumbersAmongTheFunctions(t *testing.T) {
	for _, a := range someNumbers() {
		for _, b := range someNumbers() {
			joined, less := impl.BitsJoin(a, b), impl.BitsWithout(a, b)
			for frame := range 12 {
				inA, inB := impl.BitsHas(a, frame), impl.BitsHas(b, frame)
				checkBitsHas(t, joined, frame, inA || inB)
				checkBitsHas(t, less, frame, inA && !inB)
			}
			checkJoin(t, b, a, joined)
			checkJoin(t, joined, a, joined)
			checkJoin(t, b, joined, joined)
			rest := impl.BitsWithout(a, less)
			checkJoin(t, less, rest, a)
			if less+rest != a {
				t.Errorf("%d and %d are not together %d", less, rest, a)
			}
		}
	}
}
