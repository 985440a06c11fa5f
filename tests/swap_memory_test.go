package tests

import (
	"slices"
	"strconv"
	"testing"

	"loop.example/exopager/impl"
)

// swapChange is a call with all its arguments but the swap. The words of SwapGet are returned as the only place of a swap.
type swapChange struct {
	name string
	do   func(s [][]int) [][]int
}

// swapChanges put, drop and get; among them are those that fail.
func swapChanges() []swapChange {
	all := []swapChange{}
	for _, words := range [][]int{{1, 2, 3, 4}, {0, 0, 0, 0}, {1, 2, 3}, {1, 2, 3, 10000}} {
		all = append(all, swapChange{"SwapPut of " + short(words), func(s [][]int) [][]int {
			got, _, _ := impl.SwapPut(s, words)
			return got
		}})
	}
	for _, slot := range []int{-1, 0, 1, 2, 7, 8, 14, 15, 16} {
		all = append(all, swapChange{"SwapDrop of " + strconv.Itoa(slot), func(s [][]int) [][]int {
			got, _ := impl.SwapDrop(s, slot)
			return got
		}}, swapChange{"SwapGet of " + strconv.Itoa(slot), func(s [][]int) [][]int {
			got, _ := impl.SwapGet(s, slot)
			return [][]int{got}
		}})
	}
	return all
}

// roomySwap is the swap in slices with room behind them: further places, and behind the words of each place, also where there are none, words that do not count and those of the next places.
func roomySwap(s [][]int) [][]int {
	store := make([]int, 0, 8*len(s)+8)
	roomy := make([][]int, 0, len(s)+4)
	for _, words := range s {
		from := len(store)
		store = append(append(store, words...), 8, 9, 10)
		roomy = append(roomy, store[from:from+len(words)])
	}
	return append(roomy, []int{1, 2, 3, 4}, nil, []int{-5}, []int{6, 7, 8, 9})[:len(s)]
}

// wholeSwap is a copy of all that can be reached from a swap, within the capacities of its slices.
func wholeSwap(s [][]int) [][]int {
	list := [][]int{}
	for _, words := range s[:cap(s)] {
		list = append(list, slices.Clone(words[:cap(words)]))
	}
	return list
}

// swapsToChange are valid swaps, with words at no place, at all of them and at some, and invalid ones.
func swapsToChange() [][][]int {
	swaps := writtenSwaps()
	for i, n := range someSets() {
		if i%9 == 0 {
			swaps = append(swaps, swapOf(n, i))
		}
	}
	for i, x := range invalidSwaps() {
		if i%193 == 0 && len(x.s) < 50 {
			swaps = append(swaps, x.s)
		}
	}
	return swaps
}

// swapWrites are the ways to write to a swap: to each place and each word of it, within the capacities, and only behind the places and behind the words, if there is room.
func swapWrites() []func(s [][]int) {
	return []func(s [][]int){
		spoil,
		func(s [][]int) {
			for _, words := range s {
				_ = append(words, -77, -77, -77, -77)
			}
			_ = append(s, []int{-77}, []int{-77})
		},
	}
}

// P103 to P108: no function changes a swap, or what lies behind it and its places, and none reads that.
func TestSwapsAreLeft(t *testing.T) {
	for _, start := range swapsToChange() {
		s := roomySwap(start)
		before := wholeSwap(s)
		if impl.SwapValid(s) != impl.SwapValid(start) {
			t.Errorf("with room behind it, SwapValid of %s is another one", short(start))
		}
		for _, x := range swapChanges() {
			if got, want := x.do(s), x.do(copyOf(start)); !sameMemory(got, want) {
				t.Errorf("%s of %v is %v, with room behind it, and otherwise %v", x.name, start, got, want)
			}
			if !sameMemory(wholeSwap(s), before) {
				t.Fatalf("%s changes %v to %v", x.name, before, wholeSwap(s))
			}
		}
	}
}

// P103, P104, P105, P107: a result and the swap of which it was made share nothing, neither the places nor their words, nor the room behind them.
func TestSwapResultsShareNothingWithTheSwap(t *testing.T) {
	for _, start := range swapsToChange() {
		for _, x := range swapChanges() {
			for _, write := range swapWrites() {
				for _, room := range []func([][]int) [][]int{roomySwap, copyOf} {
					s := room(start)
					before := wholeSwap(s)
					write(x.do(s))
					if !sameMemory(wholeSwap(s), before) {
						t.Fatalf("%s: a change of the result changes %v to %v", x.name, before, wholeSwap(s))
					}
					got := x.do(s)
					want := copyOf(got)
					write(s)
					if !sameMemory(got, want) {
						t.Fatalf("%s: a change of %v changes the result from %v to %v", x.name, before, want, got)
					}
				}
			}
		}
	}
}

// P103, P104, P107: two results of one swap share nothing, of the same function or of two. What is appended to one of them is not written over by the other one either.
func TestTwoSwapResultsShareNothing(t *testing.T) {
	for _, start := range writtenSwaps() {
		for _, x := range swapChanges() {
			for _, y := range swapChanges() {
				s := roomySwap(start)
				one, two := x.do(s), y.do(s)
				want := copyOf(two)
				longer := append(two, []int{5})
				for _, write := range slices.Backward(swapWrites()) {
					write(one)
				}
				if !sameMemory(two, want) || !sameMemory(longer, append(want, []int{5})) {
					t.Fatalf("of %v, a change of %s changes %s", start, x.name, y.name)
				}
			}
		}
	}
}

// P104: no two places of a result share memory: each word of one is written, and all others stay.
func TestPlacesOfASwapShareNothing(t *testing.T) {
	for _, start := range writtenSwaps() {
		for _, x := range swapChanges() {
			got := x.do(roomySwap(start))
			want := copyOf(got)
			for slot, words := range got {
				for i := range words[:cap(words)] {
					words[:cap(words)][i] = -6
				}
				want[slot] = slices.Repeat([]int{-6}, len(words))
				if !sameMemory(got, want) {
					t.Fatalf("%s of %v: a change of place %d changes the swap to %v", x.name, start, slot, got)
				}
			}
		}
	}
}

// P104: what is appended to a place of a result, also to a free one, changes no other place, and stays when something is appended to all others.
func TestPlacesOfASwapHaveNoRoomInCommon(t *testing.T) {
	for _, start := range writtenSwaps() {
		for _, x := range swapChanges() {
			got := x.do(roomySwap(start))
			before, longer, want := copyOf(got), [][]int{}, [][]int{}
			for slot, words := range got {
				longer = append(longer, append(words, slot, slot, slot, slot))
				want = append(want, append(before[slot], slot, slot, slot, slot))
			}
			if !sameMemory(got, before) || !sameMemory(longer, want) {
				t.Fatalf("%s of %v leaves %v, and appended to that %v", x.name, start, got, longer)
			}
		}
	}
}

// P103: words that are put are left as they are, with what lies behind them, and the place shares nothing with them.
func TestWordsThatArePutShareNothing(t *testing.T) {
	for _, start := range validSwaps() {
		for _, plain := range furtherWords() {
			words := roomyList(plain)
			room := slices.Clone(words[:cap(words)])
			got, slot, ok := impl.SwapPut(start, words)
			if !slices.Equal(words[:cap(words)], room) {
				t.Fatalf("SwapPut changes %v to %v", room, words[:cap(words)])
			}
			if !ok {
				continue
			}
			want := copyOf(got)
			spoilList(words)
			if !sameMemory(got, want) {
				t.Errorf("a change of the words changes the place %d to %v", slot, got[slot])
			}
			words = roomyList(plain)
			got, slot, _ = impl.SwapPut(start, words)
			appendToList(got[slot])
			spoil(got)
			if !slices.Equal(words[:cap(words)], room) {
				t.Errorf("a change of the place %d changes the words from %v to %v", slot, room, words[:cap(words)])
			}
		}
	}
}

// P103, P106: words that cannot be put are left as they are, too.
func TestWordsThatAreNotPutAreLeft(t *testing.T) {
	for _, s := range [][][]int{make([][]int, 16), swapOf(allPlaces, 0), with(swapOf(allPlaces, 0), 3, 5), nil} {
		for _, plain := range append(wordsOfNoPlace(), furtherWords()...) {
			words := roomyList(plain)
			room := slices.Clone(words[:cap(words)])
			impl.SwapPut(s, words)
			if !slices.Equal(words[:cap(words)], room) {
				t.Errorf("SwapPut changes %v to %v", short(room), short(words))
			}
		}
	}
}

// P103, P104: the words that are put may be those of a place of the swap; both places have words of their own then.
func TestPutOfWordsOfTheSameSwap(t *testing.T) {
	for _, start := range writtenSwaps() {
		free := freeSlot(start)
		for slot, plain := range start {
			if free < 0 || len(plain) == 0 {
				continue
			}
			s := roomySwap(start)
			before := wholeSwap(s)
			got := checkSwapPut(t, s, s[slot], free)
			got[free][0], got[slot][1] = -8, -9
			if !slices.Equal(got[slot], []int{plain[0], -9, plain[2], plain[3]}) || !slices.Equal(got[free], []int{-8, plain[1], plain[2], plain[3]}) {
				t.Errorf("the places %d and %d are %v and %v", slot, free, got[slot], got[free])
			}
			if !sameMemory(wholeSwap(s), before) {
				t.Errorf("the swap is changed from %v to %v", before, wholeSwap(s))
			}
		}
	}
}

// P103, P104, P107: the places of an argument may be one and the same slice; those of a result are not.
func TestPlacesOfASwapAreOneSlice(t *testing.T) {
	for _, x := range swapChanges() {
		words := []int{5, 6, 7, 8}
		s := slices.Repeat([][]int{words}, 16)
		s[9] = words[:0]
		want := x.do(copyOf(s))
		got := x.do(s)
		if !sameMemory(got, want) || !slices.Equal(words, []int{5, 6, 7, 8}) {
			t.Errorf("%s returns %v, not %v, and leaves %v", x.name, got, want, words)
		}
		for slot, place := range got {
			for at := range place {
				place[at] = 100*slot + at
			}
		}
		for slot, place := range got {
			for at, word := range place {
				if word != 100*slot+at {
					t.Errorf("%s: the place %d of the result is %v", x.name, slot, place)
				}
			}
		}
	}
}

// P107: words that are read share nothing with the swap, nor with the words of another call, for each place.
func TestGotWordsShareNothing(t *testing.T) {
	for _, start := range validSwaps() {
		for slot, words := range start {
			if len(words) == 0 {
				continue
			}
			s := roomySwap(start)
			one, _ := impl.SwapGet(s, slot)
			two, _ := impl.SwapGet(s, slot)
			appendToList(one)
			spoilList(one)
			checkSwapGet(t, s, slot, words...)
			if !slices.Equal(two, words) {
				t.Errorf("of %v, the words of %d are changed to %v", start, slot, two)
			}
			spoil(s)
			if !slices.Equal(two, words) {
				t.Errorf("a change of %v changes the words of %d to %v", start, slot, two)
			}
		}
	}
}

// P103, P104, P105: swaps that come from a call are changed by none that gets them.
func TestSwapsOfSwaps(t *testing.T) {
	empty := make([][]int, 16)
	one, _, _ := impl.SwapPut(empty, []int{1, 1, 1, 1})
	two, _, _ := impl.SwapPut(one, []int{2, 2, 2, 2})
	other, _, _ := impl.SwapPut(one, []int{3, 3, 3, 3})
	less, _ := impl.SwapDrop(two, 0)
	again, _, _ := impl.SwapPut(less, []int{4, 4, 4, 4})
	none, _ := impl.SwapDrop(less, 1)
	words, _ := impl.SwapGet(again, 1)
	more, _, _ := impl.SwapPut(again, words)
	wants := [][][]int{
		empty,
		with(empty, 0, 1, 1, 1, 1),
		with(with(empty, 0, 1, 1, 1, 1), 1, 2, 2, 2, 2),
		with(with(empty, 0, 1, 1, 1, 1), 1, 3, 3, 3, 3),
		with(empty, 1, 2, 2, 2, 2),
		with(with(empty, 0, 4, 4, 4, 4), 1, 2, 2, 2, 2),
		make([][]int, 16),
		with(with(with(empty, 0, 4, 4, 4, 4), 1, 2, 2, 2, 2), 2, 2, 2, 2, 2),
	}
	for i, got := range [][][]int{empty, one, two, other, less, again, none, more} {
		if !sameMemory(got, wants[i]) {
			t.Errorf("swap %d is %v, not %v", i, got, wants[i])
		}
		if i > 0 {
			spoil(got)
		}
	}
	if !slices.Equal(words, []int{2, 2, 2, 2}) {
		t.Errorf("the words are changed to %v", words)
	}
}
