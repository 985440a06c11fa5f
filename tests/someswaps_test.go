package tests

import (
	"slices"
	"strconv"
	"testing"

	"loop.example/exopager/impl"
)

// wordPatterns is how many patterns patternWords has.
const wordPatterns = 6

// patternWords are the words of a place: different ones at all places, from 0 to 9999; or the same ones at all places, only zeros and only the largest words among them; or, for the
// last pattern, one of these, so that several places have the same words and others do not.
func patternWords(pattern int, slot int) []int {
	switch pattern % wordPatterns {
	case 0:
		return []int{666 * slot, 666*slot + 1, 666*slot + 2, 666*slot + 9}
	case 1:
		return []int{0, 0, 0, 0}
	case 2:
		return []int{9999, 9999, 9999, 9999}
	case 3:
		return []int{7, 7, 7, 7}
	case 4:
		return []int{0, 9999, 5, 0}
	}
	return patternWords(slot*slot%5, slot)
}

// freePlace is one of the ways to write a place without words.
func freePlace(number int) []int {
	switch number % 3 {
	case 0:
		return nil
	case 1:
		return []int{}
	}
	return []int{1, 2, 3, 4}[:0]
}

// swapOf has words at the places whose bits are 1 in a number, from the lowest bit on. Free places of each kind lie side by side.
func swapOf(full int, pattern int) [][]int {
	s := [][]int{}
	for slot := range 16 {
		if full>>slot&1 == 1 {
			s = append(s, patternWords(pattern, slot))
		} else {
			s = append(s, freePlace(full+slot))
		}
	}
	return s
}

// allPlaces is the number of swapOf in which no place is free.
const allPlaces = 1<<16 - 1

// writtenSwaps are valid ones that are written out: no words at all, as nil and as empty places and as both; words at the first place, at the last one and at one between; at several; at
// all but the first, the last and one between; and at all.
func writtenSwaps() [][][]int {
	empty := [][]int{{}, {}, {}, {}, {}, {}, {}, {}, {}, {}, {}, {}, {}, {}, {}, {}}
	full := [][]int{
		{0, 1, 2, 3}, {10, 11, 12, 13}, {20, 21, 22, 23}, {30, 31, 32, 33}, {0, 0, 0, 0}, {50, 51, 52, 53}, {60, 61, 62, 63}, {60, 61, 62, 63},
		{80, 81, 82, 83}, {90, 91, 92, 93}, {9999, 9999, 9999, 9999}, {110, 111, 112, 113}, {60, 61, 62, 63}, {0, 0, 0, 0}, {140, 141, 142, 143}, {9996, 9997, 9998, 9999},
	}
	return [][][]int{
		make([][]int, 16),
		empty,
		{nil, {}, nil, {}, {}, nil, nil, {}, nil, {}, nil, {}, {}, nil, nil, {}},
		with(empty, 0, 1, 2, 3, 4),
		with(empty, 15, 1, 2, 3, 4),
		with(make([][]int, 16), 7, 9999, 0, 0, 9999),
		with(make([][]int, 16), 8, 0, 0, 0, 0),
		with(with(empty, 3, 5, 6, 7, 8), 12, 5, 6, 7, 8),
		{{1, 2, 3, 4}, nil, {5, 6, 7, 8}, {}, {1, 2, 3, 4}, nil, {}, {}, {9, 9, 9, 9}, nil, nil, {1, 2, 3, 4}, {}, {0, 0, 0, 0}, nil, {4, 3, 2, 1}},
		{nil, {1, 2, 3, 4}, {5, 6, 7, 8}, {1, 2, 3, 4}, {}, {}, nil, {0, 0, 0, 0}, {0, 0, 0, 0}, {}, {7, 7, 7, 7}, {7, 7, 7, 7}, nil, {8, 8, 8, 8}, {9, 9, 9, 9}, {}},
		with(full, 0),
		with(full, 15),
		with(full, 6),
		with(with(full, 0), 15),
		full,
	}
}

// someSets are the numbers of swapOf with up to two places that are not free, or up to two that are, and some of all others.
func someSets() []int {
	sets := []int{0, allPlaces}
	for one := range 16 {
		for two := range one + 1 {
			pair := 1<<one | 1<<two
			sets = append(sets, pair, allPlaces-pair)
		}
	}
	for n := 77; n < allPlaces; n += 401 {
		sets = append(sets, n)
	}
	return sets
}

// validSwaps are writtenSwaps, and those of someSets with each pattern of words in turn.
func validSwaps() [][][]int {
	swaps := writtenSwaps()
	for i, n := range someSets() {
		swaps = append(swaps, swapOf(n, i), swapOf(n, i/wordPatterns))
	}
	return swaps
}

// furtherWords are words of a place that can be put.
func furtherWords() [][]int {
	return [][]int{{1, 2, 3, 4}, {0, 0, 0, 0}, {9999, 9999, 9999, 9999}, {0, 0, 0, 9999}, {9999, 0, 0, 0}, {5, 5, 6, 5}, {666, 667, 668, 675}}
}

// wordsOfNoPlace are too few or too many words, or have one that is out of range, as the first one, as the last one and between, or several.
func wordsOfNoPlace() [][]int {
	lists := [][]int{nil, {}, {0}, {5}, {1, 2}, {1, 2, 3}, {1, 2, 3, 4, 5}, {0, 0, 0, 0, 0}, {1, 2, 3, 4, -1}, {1, 2, 3, 10000}, {1, 2, -1}, make([]int, 8), make([]int, 16), make([]int, 260), make([]int, 65540)}
	for at := range 4 {
		for _, word := range badWords() {
			list := []int{1, 2, 3, 4}
			list[at] = word
			lists = append(lists, list)
		}
	}
	return append(lists, []int{-1, 2, 3, 10000}, []int{-1, -1, -1, -1}, []int{10000, 10000, 10000, 10000}, []int{-77})
}

// freeSlot is the first place without words, or -1.
func freeSlot(s [][]int) int {
	return slices.IndexFunc(s, func(words []int) bool { return len(words) == 0 })
}

type namedSwap struct {
	name string
	s    [][]int
}

// swapsOfOtherLengths have only valid places.
func swapsOfOtherLengths() []namedSwap {
	all := []namedSwap{{"nil", nil}, {"no places", [][]int{}}}
	for _, many := range []int{1, 2, 3, 4, 8, 12, 14, 15, 17, 18, 20, 24, 31, 32, 33, 48, 64, 255, 256, 272, 65536, 65552} {
		name := strconv.Itoa(many) + " places, "
		all = append(all,
			namedSwap{name + "all free", make([][]int, many)},
			namedSwap{name + "none free", slices.Repeat([][]int{{1, 2, 3, 4}}, many)},
			namedSwap{name + "some free", slices.Repeat([][]int{{1, 2, 3, 4}, {}, {0, 0, 0, 0}, nil}, many/4+1)[:many]},
			namedSwap{name + "the last one free", append(slices.Repeat([][]int{{1, 2, 3, 4}}, many-1), nil)},
			namedSwap{name + "only the last one not free", append(make([][]int, many-1), []int{1, 2, 3, 4})})
	}
	return all
}

// faultySwaps have one place whose words are not those of a place, at each place of some swaps: all others are free, none is, or some are.
func faultySwaps() []namedSwap {
	all := []namedSwap{}
	for _, n := range []int{0, allPlaces, 0x5555, 0xaaaa, 0x00ff, 0xff00} {
		for slot := range 16 {
			for _, words := range wordsOfNoPlace() {
				if len(words) == 0 {
					continue
				}
				name := "in " + strconv.FormatInt(int64(n), 2) + " the place " + strconv.Itoa(slot) + " with " + short(words)
				all = append(all, namedSwap{name, with(swapOf(n, slot), slot, words...)})
			}
		}
	}
	return all
}

// doublyFaultySwaps have more than one fault: several places, or a place of a swap that has too few or too many of them.
func doublyFaultySwaps() []namedSwap {
	all := []namedSwap{}
	for _, words := range [][]int{{5}, {1, 2, 3}, {1, 2, 3, 4, 5}, {-1, 2, 3, 4}, {1, 2, 3, 10000}} {
		full := swapOf(allPlaces, 0)
		all = append(all,
			namedSwap{"only faults", slices.Repeat([][]int{words}, 16)},
			namedSwap{"the first and the last place", with(with(full, 0, words...), 15, words...)},
			namedSwap{"a word less and a word more", with(with(full, 4, words[1:]...), 5, append([]int{1}, full[5]...)...)},
			namedSwap{"a fault in front of 16", slices.Insert(slices.Clone(full), 0, words)},
			namedSwap{"a fault behind 16", append(slices.Clone(full), words)},
			namedSwap{"a fault among 15", with(full[:15], 7, words...)},
			namedSwap{"a fault alone", [][]int{words}})
	}
	return all
}

func invalidSwaps() []namedSwap {
	return slices.Concat(swapsOfOtherLengths(), faultySwaps(), doublyFaultySwaps())
}

func checkSwap(t *testing.T, s [][]int, want bool) {
	t.Helper()
	if got := impl.SwapValid(s); got != want {
		t.Errorf("of %s, SwapValid is %t", short(s), got)
	}
}

// checkSwapPut expects that words are put at a place, and that all other places stay.
func checkSwapPut(t *testing.T, s [][]int, words []int, slot int) [][]int {
	t.Helper()
	got, at, ok := impl.SwapPut(s, words)
	if !ok || at != slot || !sameMemory(got, with(s, slot, words...)) {
		t.Errorf("into %v, SwapPut of %v returns %v, %d, %t, not at %d", s, words, got, at, ok, slot)
	}
	return got
}

func checkNoSwapPut(t *testing.T, s [][]int, words []int) {
	t.Helper()
	if got, at, ok := impl.SwapPut(s, words); ok || at != 0 || len(got) != 0 {
		t.Errorf("into %s, SwapPut of %s returns %s, %d, %t", short(s), short(words), short(got), at, ok)
	}
}

// checkSwapPutFirst expects what the first free place of a valid swap tells.
func checkSwapPutFirst(t *testing.T, s [][]int, words []int) {
	t.Helper()
	if slot := freeSlot(s); slot >= 0 {
		checkSwapPut(t, s, words, slot)
		return
	}
	checkNoSwapPut(t, s, words)
}

func checkSwapGet(t *testing.T, s [][]int, slot int, want ...int) {
	t.Helper()
	if got, ok := impl.SwapGet(s, slot); !ok || !slices.Equal(got, want) {
		t.Errorf("of %v, SwapGet of %d returns %v, %t, not %v", s, slot, got, ok, want)
	}
}

func checkNoSwapGet(t *testing.T, s [][]int, slot int) {
	t.Helper()
	if got, ok := impl.SwapGet(s, slot); ok || len(got) != 0 {
		t.Errorf("of %s, SwapGet of %d returns %v, %t", short(s), slot, got, ok)
	}
}

// checkSwapDrop expects that a place becomes free, and that all others stay.
func checkSwapDrop(t *testing.T, s [][]int, slot int) [][]int {
	t.Helper()
	got, ok := impl.SwapDrop(s, slot)
	if !ok || !sameMemory(got, with(s, slot)) {
		t.Errorf("of %v, SwapDrop of %d returns %v, %t", s, slot, got, ok)
	}
	return got
}

func checkNoSwapDrop(t *testing.T, s [][]int, slot int) {
	t.Helper()
	if got, ok := impl.SwapDrop(s, slot); ok || len(got) != 0 {
		t.Errorf("of %s, SwapDrop of %d returns %s, %t", short(s), slot, short(got), ok)
	}
}

// checkNoPlace expects that a place is free, or that there is none.
func checkNoPlace(t *testing.T, s [][]int, slot int) {
	t.Helper()
	checkNoSwapGet(t, s, slot)
	checkNoSwapDrop(t, s, slot)
}

// checkPlaces looks at each place of a valid swap, and at those just beside them.
func checkPlaces(t *testing.T, s [][]int) {
	t.Helper()
	for slot, words := range s {
		if len(words) == 0 {
			checkNoPlace(t, s, slot)
			continue
		}
		checkSwapGet(t, s, slot, words...)
		checkSwapDrop(t, s, slot)
	}
	checkNoPlace(t, s, -1)
	checkNoPlace(t, s, 16)
}

// checkInvalidSwap tries all functions, with valid words and places and with invalid ones; some of the arguments would leave a valid swap behind.
func checkInvalidSwap(t *testing.T, x namedSwap) {
	t.Helper()
	if impl.SwapValid(x.s) {
		t.Errorf("%s: %s is valid", x.name, short(x.s))
	}
	for _, words := range [][]int{{1, 2, 3, 4}, {0, 0, 0, 0}, nil, {5}, {1, 2, 3}, {1, 2, 3, 4, 5}, {-1, 2, 3, 4}, {1, 2, 3, 10000}} {
		if got, slot, ok := impl.SwapPut(x.s, words); ok || slot != 0 || len(got) != 0 {
			t.Errorf("%s: SwapPut of %v returns %s, %d, %t", x.name, words, short(got), slot, ok)
		}
	}
	for slot := -1; slot <= 17; slot++ {
		if got, ok := impl.SwapGet(x.s, slot); ok || len(got) != 0 {
			t.Errorf("%s: SwapGet of %d returns %s, %t", x.name, slot, short(got), ok)
		}
		if got, ok := impl.SwapDrop(x.s, slot); ok || len(got) != 0 {
			t.Errorf("%s: SwapDrop of %d returns %s, %t", x.name, slot, short(got), ok)
		}
	}
}
