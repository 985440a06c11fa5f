package tests

import (
	"slices"
	"testing"

	"loop.example/exopager/impl"
)

// roomyList is the list in a slice with room behind it, which holds numbers that do not count.
func roomyList(list []int) []int {
	store := append(slices.Clone(list), 0, 11, 5, 5, -1, 12)
	return store[:len(list)]
}

// appendToList writes behind the list if there is room, and not to the list itself.
func appendToList(list []int) {
	_ = append(list, -77)
}

// P28, P30: BitsOf leaves the list as it is, and what lies behind it, and reads nothing of that.
func TestListsAreLeft(t *testing.T) {
	for n := range 4096 {
		for _, start := range orders(framesOfNumber(n)) {
			list := roomyList(start)
			before := slices.Clone(list[:cap(list)])
			checkBitsOf(t, list, n)
			if !slices.Equal(list[:cap(list)], before) {
				t.Fatalf("%v is changed to %v", before, list[:cap(list)])
			}
		}
	}
	for _, x := range invalidLists() {
		list := roomyList(x.list)
		before := slices.Clone(list[:cap(list)])
		checkNoBitsOf(t, list)
		if !slices.Equal(list[:cap(list)], before) {
			t.Fatalf("%s: the list is changed", x.name)
		}
	}
}

// P28, P29: the list that was taken and the one that is returned for its number share nothing: neither is changed with the other one, nor by an append to it.
func TestListsOfNumbersShareNothing(t *testing.T) {
	for n := range 4096 {
		want := framesOfNumber(n)
		for _, write := range []func([]int){spoilList, appendToList} {
			list := roomyList(want)
			before := slices.Clone(list[:cap(list)])
			number, _ := impl.BitsOf(list)
			got := impl.BitsList(number)
			write(got)
			if !slices.Equal(list[:cap(list)], before) {
				t.Errorf("a change of the result changes %v to %v", before, list[:cap(list)])
			}
			got = impl.BitsList(number)
			write(list)
			if !slices.Equal(got, want) {
				t.Errorf("a change of the argument changes %v to %v", want, got)
			}
		}
	}
}

// P28, P35: the lists of two calls share nothing, though the numbers are the same, or both are not in range.
func TestTwoListsShareNothing(t *testing.T) {
	for _, n := range append(someNumbers(), -1, 4096) {
		for _, other := range []int{n, 4095, 0, 2048} {
			one, two := impl.BitsList(n), impl.BitsList(other)
			want := slices.Clone(two)
			longer := append(two, 3)
			appendToList(one)
			spoilList(one)
			if !slices.Equal(two, want) || !slices.Equal(longer, append(want, 3)) {
				t.Errorf("a change of BitsList(%d) changes BitsList(%d) from %v to %v", n, other, want, longer)
			}
			checkBitsList(t, other, want...)
		}
	}
}

// P28 to P35: a call depends on nothing that earlier calls did.
func TestNoSetIsKept(t *testing.T) {
	list := []int{3, 0}
	checkBitsOf(t, list, 9)
	checkBitsOf(t, list, 9)
	list[0] = 4
	checkBitsOf(t, list, 17)
	list[1] = 4
	checkNoBitsOf(t, list)
	list[1] = 12
	checkNoBitsOf(t, list)
	checkBitsOf(t, nil, 0)
	checkBitsOf(t, []int{4}, 16)
	impl.BitsList(4095)
	checkBitsList(t, 0)
	impl.BitsJoin(4095, 4095)
	checkBitsHas(t, 9, 4, false)
	checkJoin(t, 8, 1, 9)
	checkWithout(t, 9, 1, 8)
	checkNoPair(t, 9, 4096)
	checkJoin(t, 8, 1, 9)
	checkWithout(t, 9, 8, 1)
}
