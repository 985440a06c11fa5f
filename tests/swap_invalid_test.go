package tests

import (
	"testing"

	"loop.example/exopager/impl"
)

// P103 to P108: too few or too many places, and places that are invalid, each one by the number of its words or by one of them, alone and together: nothing is returned, whatever the other arguments are.
func TestInvalidSwaps(t *testing.T) {
	for _, x := range invalidSwaps() {
		checkInvalidSwap(t, x)
	}
}

// P106: words that are not those of a place are not put: neither where places are free, as many as there may be, nor where none is.
func TestPutOfWordsOfNoPlace(t *testing.T) {
	swaps := writtenSwaps()
	for slot := range 16 {
		swaps = append(swaps, with(swapOf(allPlaces, slot), slot), with(swapOf(0, 0), slot, 1, 2, 3, 4))
	}
	for _, s := range swaps {
		for _, words := range wordsOfNoPlace() {
			checkNoSwapPut(t, s, words)
		}
		checkSwap(t, s, true)
		checkSwapPutFirst(t, s, []int{1, 2, 3, 4})
	}
}

// P106, P108: every number that is out of range, at each place of words that are put, and of words that are there.
func TestSwapWordsOutOfRange(t *testing.T) {
	s := with(swapOf(allPlaces, 0), 6)
	for at := range 4 {
		for _, word := range allNumbers() {
			if word >= 0 && word <= 9999 {
				continue
			}
			words := []int{1, 2, 3, 4}
			words[at] = word
			checkNoSwapPut(t, s, words)
			s[13] = words
			checkSwap(t, s, false)
			s[13] = []int{1, 2, 3, 4}
		}
	}
	checkSwapPut(t, s, []int{1, 2, 3, 4}, 6)
}

// P106, P108: words just at the bounds and beside them, at each place of the swap: valid exactly if they are in range.
func TestSwapWordsAtTheBounds(t *testing.T) {
	for slot := range 16 {
		for at := range 4 {
			for _, word := range []int{-2, -1, 0, 1, 9998, 9999, 10000, 10001} {
				words := []int{5, 5, 5, 5}
				words[at] = word
				s := with(swapOf(allPlaces-1, 0), slot, words...)
				if word < 0 || word > 9999 {
					checkInvalidSwap(t, namedSwap{"a word out of range", s})
					checkNoSwapPut(t, with(s, slot), words)
					continue
				}
				checkSwap(t, s, true)
				checkSwapGet(t, s, slot, words...)
				checkSwapDrop(t, s, slot)
				checkSwapPutFirst(t, with(s, slot), words)
			}
		}
	}
}

// P108: each number of words at each place: valid only without any, and with those of a place.
func TestNumbersOfWordsAtAPlace(t *testing.T) {
	for slot := range 16 {
		for many := range 20 {
			for _, n := range []int{0, allPlaces, 0x6b35} {
				words := make([]int, many)
				s := with(swapOf(n, 0), slot, words...)
				if many != 0 && many != 4 {
					checkInvalidSwap(t, namedSwap{"a number of words", s})
					checkNoSwapPut(t, with(s, slot), words)
					continue
				}
				checkSwap(t, s, true)
				checkPlaces(t, s)
				checkSwapPutFirst(t, s, []int{1, 2, 3, 4})
			}
		}
	}
}

// P108: a place less and a place more than a swap has, however many of them are free.
func TestOnePlaceTooMuchOrTooFew(t *testing.T) {
	for _, s := range validSwaps() {
		for _, place := range [][]int{nil, {}, {1, 2, 3, 4}, {0, 0, 0, 0}, {5}} {
			checkInvalidSwap(t, namedSwap{"a place more", append(copyOf(s), place)})
		}
		checkInvalidSwap(t, namedSwap{"a place less", s[:15]})
		checkInvalidSwap(t, namedSwap{"the first place less", s[1:]})
	}
}

// P107: where a swap is invalid, it makes no difference that the place is valid, or that the swap would be valid without it.
func TestSwapsThatWouldBeMended(t *testing.T) {
	for slot := range 16 {
		for _, words := range [][]int{{5}, {1, 2, 3}, {1, 2, 3, 4, 5}, {-1, 2, 3, 4}, {1, 2, 10000, 4}, {1, 2, 3, -1}} {
			for _, n := range []int{0, allPlaces, 0x9669} {
				s := with(swapOf(n, 0), slot, words...)
				checkNoPlace(t, s, slot)
				checkNoPlace(t, s, (slot+1)%16)
				checkNoPlace(t, s, -1)
				checkNoSwapPut(t, s, []int{1, 2, 3, 4})
				checkSwap(t, with(s, slot), true)
				if got, ok := impl.SwapGet(with(s, slot, 1, 2, 3, 4), slot); !ok || len(got) != 4 {
					t.Errorf("SwapGet of %d returns %v, %t", slot, got, ok)
				}
			}
		}
	}
}
