package tests

import (
	"slices"
	"testing"

	"loop.example/exopager/impl"
)

func TestConstantOfSwaps(t *testing.T) {
	if impl.SlotMax != 16 {
		t.Errorf("a swap has %d places", impl.SlotMax)
	}
}

// P103, P104, P105, P107: puts, gets and drops that are written out.
func TestWrittenSwapCalls(t *testing.T) {
	s := checkSwapPut(t, make([][]int, 16), []int{1, 2, 3, 4}, 0)
	s = checkSwapPut(t, s, []int{5, 6, 7, 8}, 1)
	s = checkSwapPut(t, s, []int{1, 2, 3, 4}, 2)
	s = checkSwapPut(t, s, []int{0, 0, 0, 0}, 3)
	s = checkSwapPut(t, s, []int{9999, 0, 9999, 1}, 4)
	want := [][]int{{1, 2, 3, 4}, {5, 6, 7, 8}, {1, 2, 3, 4}, {0, 0, 0, 0}, {9999, 0, 9999, 1}, {}, {}, {}, {}, {}, {}, {}, {}, {}, {}, {}}
	if !sameMemory(s, want) {
		t.Errorf("the swap is %v, not %v", s, want)
	}
	s = checkSwapDrop(t, s, 3)
	s = checkSwapDrop(t, s, 1)
	checkNoPlace(t, s, 1)
	checkNoPlace(t, s, 3)
	checkNoPlace(t, s, 5)
	checkSwapGet(t, s, 0, 1, 2, 3, 4)
	checkSwapGet(t, s, 2, 1, 2, 3, 4)
	checkSwapGet(t, s, 4, 9999, 0, 9999, 1)
	s = checkSwapPut(t, s, []int{9, 9, 9, 9}, 1)
	s = checkSwapPut(t, s, []int{8, 8, 8, 8}, 3)
	s = checkSwapPut(t, s, []int{7, 7, 7, 7}, 5)
	s = checkSwapDrop(t, s, 0)
	want = [][]int{{}, {9, 9, 9, 9}, {1, 2, 3, 4}, {8, 8, 8, 8}, {9999, 0, 9999, 1}, {7, 7, 7, 7}, {}, {}, {}, {}, {}, {}, {}, {}, {}, {}}
	if !sameMemory(s, want) {
		t.Errorf("the swap is %v, not %v", s, want)
	}
	checkPlaces(t, s)
}

// P103 to P108: swaps that are written out, each place of them, and words that are put.
func TestWrittenSwaps(t *testing.T) {
	first := []int{0, 0, 0, 1, 0, 0, 0, 0, 1, 0, 0, 15, 6, 0, -1}
	for i, s := range writtenSwaps() {
		checkSwap(t, s, true)
		checkPlaces(t, s)
		for _, words := range furtherWords() {
			if first[i] < 0 {
				checkNoSwapPut(t, s, words)
				continue
			}
			got := checkSwapPut(t, s, words, first[i])
			checkSwap(t, got, true)
			checkPlaces(t, got)
		}
	}
}

// P103 to P107: each set of places that are free. The first of them gets the words, which are read there; without them, the swap is as before.
func TestPutsOfAllSetsOfFreePlaces(t *testing.T) {
	for n := range 1 << 16 {
		s, words := swapOf(n, n/3), patternWords(n/5, n%15)
		checkSwap(t, s, true)
		slot := freeSlot(s)
		if slot < 0 {
			checkNoSwapPut(t, s, words)
			continue
		}
		got := checkSwapPut(t, s, words, slot)
		checkSwap(t, got, true)
		checkSwapGet(t, got, slot, words...)
		back, ok := impl.SwapDrop(got, slot)
		if !ok || !sameMemory(back, s) {
			t.Errorf("into %v, SwapPut of %v and SwapDrop of %d lead to %v, %t", s, words, slot, back, ok)
		}
	}
}

// P107: each place of each set of places that are free.
func TestPlacesOfAllSetsOfFreePlaces(t *testing.T) {
	for n := range 1 << 16 {
		checkPlaces(t, swapOf(n, n/7))
	}
}

// P103 to P107: swaps with words of each pattern, all places of them, and words of each kind that are put.
func TestSwapsOfAllPatterns(t *testing.T) {
	for i, n := range someSets() {
		for pattern := range wordPatterns {
			s := swapOf(n, pattern)
			checkSwap(t, s, true)
			checkPlaces(t, s)
			for _, words := range [][]int{furtherWords()[i%7], patternWords(pattern, i%16)} {
				checkSwapPutFirst(t, s, words)
			}
		}
	}
}

// P103, P108: each word at each place of a page, as words that are put and that are there.
func TestEachWordInASwap(t *testing.T) {
	empty := make([][]int, 16)
	full := with(swapOf(allPlaces, 0), 11)
	for at := range 4 {
		for word := range 10000 {
			words := []int{4, 3, 2, 1}
			words[at] = word
			checkSwapGet(t, checkSwapPut(t, empty, words, 0), 0, words...)
			if word%10 == at || word > 9990 {
				checkSwapGet(t, checkSwapPut(t, full, words, 11), 11, words...)
				checkSwapGet(t, with(empty, 15, words...), 15, words...)
			}
		}
	}
}

// P104, P106: words are put again and again, until no place is free; each of them is read at its place then, and those that were there before are, too.
func TestPutUntilNoPlaceIsFree(t *testing.T) {
	for i, start := range validSwaps() {
		s, want := start, copyOf(start)
		for turn := 0; freeSlot(want) >= 0; turn++ {
			words := []int{9999 - turn, i % 10000, turn, 5000}
			slot := freeSlot(want)
			want[slot] = words
			s = checkSwapPut(t, s, words, slot)
		}
		if !sameMemory(s, want) {
			t.Fatalf("the swap is %v, not %v", s, want)
		}
		for _, words := range furtherWords() {
			checkNoSwapPut(t, s, words)
		}
		checkPlaces(t, s)
	}
}

// P103, P106: the same words until no place is free: equal words at several places are as good as others.
func TestPutOfEqualWordsUntilNoPlaceIsFree(t *testing.T) {
	for _, words := range furtherWords() {
		s := make([][]int, 16)
		for slot := range 16 {
			s = checkSwapPut(t, s, words, slot)
		}
		checkNoSwapPut(t, s, words)
		checkPlaces(t, s)
		for slot := range 16 {
			less := checkSwapDrop(t, s, slot)
			checkNoPlace(t, less, slot)
			checkSwapGet(t, less, 15-slot/8*15, words...)
			checkSwapPut(t, less, words, slot)
		}
	}
}

// P105: SwapDrop of the place where words were put leads back, from swaps of all kinds.
func TestPutThenDropOfASwap(t *testing.T) {
	for _, s := range validSwaps() {
		slot := freeSlot(s)
		if slot < 0 {
			continue
		}
		for _, words := range furtherWords() {
			got := checkSwapPut(t, s, words, slot)
			if back := checkSwapDrop(t, got, slot); !sameMemory(back, s) {
				t.Errorf("SwapPut of %v and SwapDrop of %d lead from %v to %v", words, slot, s, back)
			}
		}
	}
}

// checkDropsInOrder drops some places of a swap. Behind each one, the first free place gets the words, also for all that are free at the end.
func checkDropsInOrder(t *testing.T, s [][]int, order []int) {
	t.Helper()
	want := copyOf(s)
	for i, slot := range order {
		s = checkSwapDrop(t, s, slot)
		want[slot] = nil
		checkSwapPut(t, s, []int{i, 5, 6, 7}, freeSlot(want))
	}
	for turn := range order {
		words := []int{9000, turn, 0, turn}
		slot := freeSlot(want)
		want[slot] = words
		s = checkSwapPut(t, s, words, slot)
	}
	if !sameMemory(s, want) {
		t.Errorf("after drops in the order %v, the swap is %v, not %v", order, s, want)
	}
}

// P103, P104, P107: some places of a swap in each order, where all others stay as they are, and some of these are free.
func TestDropsInEachOrder(t *testing.T) {
	for _, slots := range [][]int{{0, 1, 2, 3, 4, 5}, {10, 11, 12, 13, 14, 15}, {0, 3, 6, 9, 12, 15}, {2, 4, 5, 7, 8, 13}} {
		for i, order := range permutations(slots) {
			checkDropsInOrder(t, swapOf(allPlaces, i), order)
		}
	}
	for i, order := range permutations([]int{1, 6, 9, 14}) {
		checkDropsInOrder(t, swapOf(1<<1|1<<6|1<<9|1<<14, i), order)
		checkDropsInOrder(t, swapOf(allPlaces-1<<8-1<<15, i), order)
		checkDropsInOrder(t, swapOf(allPlaces-1-1<<2, i), order)
	}
}

// P103, P104, P107: all places, in many orders.
func TestDropsOfAllPlacesInManyOrders(t *testing.T) {
	all := []int{0, 1, 2, 3, 4, 5, 6, 7, 8, 9, 10, 11, 12, 13, 14, 15}
	many := orders(all)
	for number := range 500 {
		next, order := series(number), slices.Clone(all)
		for i := range order {
			at := i + next(16-i)
			order[i], order[at] = order[at], order[i]
		}
		many = append(many, order)
	}
	for i, order := range many {
		checkDropsInOrder(t, swapOf(allPlaces, i), order)
	}
}

// P107: behind SwapDrop, SwapGet of the place fails, and so does SwapDrop; SwapGet of each other place is as before.
func TestGetBehindDrop(t *testing.T) {
	for i, s := range validSwaps() {
		for slot, words := range s {
			if len(words) == 0 || i%3 != slot%3 {
				continue
			}
			less := checkSwapDrop(t, s, slot)
			checkSwap(t, less, true)
			checkNoPlace(t, less, slot)
			for other := range s {
				if other == slot || len(s[other]) == 0 {
					checkNoSwapGet(t, less, other)
				} else {
					checkSwapGet(t, less, other, s[other]...)
				}
			}
		}
	}
}

// P107, P108: a free place, as nil and as an empty place, as the first one, as the last one, and between others that are not free.
func TestFreePlaces(t *testing.T) {
	for slot := range 16 {
		for kind := range 3 {
			s := swapOf(allPlaces, kind)
			s[slot] = freePlace(kind)
			checkSwap(t, s, true)
			checkNoPlace(t, s, slot)
			checkPlaces(t, s)
			checkSwapPut(t, s, []int{1, 2, 3, 4}, slot)
			for other := slot + 1; other < 16; other++ {
				s[other] = freePlace(kind + other - slot)
				checkSwap(t, s, true)
				checkPlaces(t, s)
				checkSwapPut(t, s, []int{1, 2, 3, 4}, slot)
			}
		}
	}
}

// P103, P106, P107: a place with zeros only is not free.
func TestPlacesWithZerosAreNotFree(t *testing.T) {
	zeros := swapOf(allPlaces, 1)
	checkSwap(t, zeros, true)
	checkNoSwapPut(t, zeros, []int{1, 2, 3, 4})
	checkNoSwapPut(t, zeros, []int{0, 0, 0, 0})
	for slot := range 16 {
		checkSwapGet(t, zeros, slot, 0, 0, 0, 0)
		less := checkSwapDrop(t, zeros, slot)
		checkNoPlace(t, less, slot)
		checkSwapPut(t, less, []int{1, 2, 3, 4}, slot)
		checkNoSwapPut(t, checkSwapPut(t, less, []int{0, 0, 0, 0}, slot), []int{1, 2, 3, 4})
		alone := with(make([][]int, 16), slot, 0, 0, 0, 0)
		checkPlaces(t, alone)
		checkSwapPut(t, alone, []int{0, 0, 0, 0}, 1-min(slot, 1))
	}
}

// P107: there is no place below the first one or behind the last one, whatever the swap has.
func TestPlacesThatDoNotExist(t *testing.T) {
	for i, s := range writtenSwaps() {
		if i%3 == 2 {
			for _, slot := range noneOf(16) {
				checkNoPlace(t, s, slot)
			}
		}
		for _, slot := range []int{-16, -2, -1, 16, 17, 31, 32, 256, 1 << 32, 1<<32 + 5, -1 << 63, 1<<63 - 1} {
			checkNoPlace(t, s, slot)
		}
	}
}

// P108: without the words of any one place, and with a single word there.
func TestSwapsWithAFreePlaceAndWithASingleWord(t *testing.T) {
	for i, s := range validSwaps() {
		checkSwap(t, s, true)
		for slot := range s {
			checkSwap(t, with(s, slot), true)
			checkSwap(t, with(s, slot, []int{}...), true)
			for _, word := range []int{0, 1, i % 10000, 9999} {
				checkSwap(t, with(s, slot, word), false)
			}
		}
	}
}

// P103 to P107: puts, gets and drops in any order, held against a swap that is kept beside them, until no place is free and until all are, again and again.
func TestPutAndDropInAnyOrder(t *testing.T) {
	full, empty := 0, 0
	for number := range 60 {
		next := series(number * 29)
		s, want := make([][]int, 16), make([][]int, 16)
		for turn := range 300 {
			if next(10) < 2+turn/50%2*6 {
				slot := next(16)
				if len(want[slot]) == 0 {
					checkNoPlace(t, s, slot)
				} else {
					checkSwapGet(t, s, slot, want[slot]...)
					s = checkSwapDrop(t, s, slot)
				}
				want[slot] = nil
			} else {
				words := []int{next(10000), next(2), next(10000), 9999 * next(2)}
				if slot := freeSlot(want); slot >= 0 {
					s = checkSwapPut(t, s, words, slot)
					want[slot] = words
				} else {
					checkNoSwapPut(t, s, words)
					full++
				}
			}
			if !sameMemory(s, want) {
				t.Fatalf("the swap is %v, not %v", s, want)
			}
			if sameMemory(want, make([][]int, 16)) {
				empty++
			}
		}
	}
	if full < 100 || empty < 20 {
		t.Errorf("no place was free %d times, and all were %d times", full, empty)
	}
}

// P103, P107: a call depends on nothing that earlier calls did.
func TestNoSwapIsKept(t *testing.T) {
	s := with(swapOf(allPlaces, 0), 9)
	for range 3 {
		checkSwapPut(t, s, []int{1, 2, 3, 4}, 9)
		checkSwapDrop(t, s, 4)
		checkNoPlace(t, s, 9)
		checkSwapPut(t, make([][]int, 16), []int{5, 6, 7, 8}, 0)
		checkNoPlace(t, make([][]int, 16), 0)
	}
	s[9] = []int{4, 3, 2, 1}
	checkNoSwapPut(t, s, []int{1, 2, 3, 4})
	checkSwapGet(t, s, 9, 4, 3, 2, 1)
	s[2] = []int{10000, 0, 0, 0}
	checkInvalidSwap(t, namedSwap{"a change", s})
	s[2] = nil
	checkSwapPut(t, s, []int{1, 2, 3, 4}, 2)
	checkPlaces(t, s)
}
