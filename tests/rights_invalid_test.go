package tests

import (
	"slices"
	"testing"

	"loop.example/exopager/impl"
)

// guardsFor are rights to ask for, some of which are in a list or included by it, and texts that are no rights.
func guardsFor(list []string) []string {
	guards := []string{"", "a", "abc", "cccc", "d", "aaaaa", "\x00"}
	for _, s := range list[:min(len(list), 8)] {
		guards = append(guards, s, s+"a")
	}
	return guards
}

// P39, P41, P42, P43, P44: each kind of invalid list: nothing is allowed, added, left or returned, though the right is there.
func TestInvalidRights(t *testing.T) {
	for _, x := range invalidRights() {
		if impl.RightsValid(x.list) {
			t.Errorf("%s: %.20q is valid", x.name, x.list[:min(len(x.list), 10)])
		}
		for _, s := range guardsFor(x.list) {
			checkNothing(t, x.list, s)
		}
	}
}

// P39, P44: every list of two in which the second right does not come later.
func TestAllPairsThatDoNotAscend(t *testing.T) {
	for at, a := range eachRight {
		for _, b := range eachRight[:at+1] {
			checkRights(t, []string{a, b}, false)
			checkNothing(t, []string{a, b}, a)
			checkNothing(t, []string{a, b}, "")
		}
	}
}

// P36, P44: every text that is no right, alone, and behind or in front of a right.
func TestRightsWithATextThatIsNoRight(t *testing.T) {
	for _, bad := range badTexts() {
		checkRights(t, []string{bad}, false)
		checkNothing(t, []string{bad}, bad)
		checkNothing(t, []string{bad}, "a")
		checkRights(t, []string{"", bad}, false)
		checkNothing(t, []string{"", bad}, "a")
		checkRights(t, []string{"a", bad}, false)
		checkRights(t, []string{bad, "c"}, false)
		checkNothing(t, []string{bad, "c"}, "c")
	}
}

// P39, P41, P42, P43: every text that is no right, asked for, added and dropped. The empty right does not allow it, six rights are not returned, and none are left.
func TestNoRightForValidRights(t *testing.T) {
	for _, bad := range badTexts() {
		checkNothing(t, nil, bad)
		checkNothing(t, []string{""}, bad)
		checkNothing(t, []string{"a", "b", "c"}, bad)
		checkNothing(t, []string{"a", "aaaa", "abca", "b", "bbbb", "cccc"}, bad)
	}
	for _, list := range validRights() {
		for _, bad := range someBadTexts() {
			checkNothing(t, list, bad)
		}
		for _, s := range list {
			checkNothing(t, list, s+"d")
			checkNothing(t, list, s+"aaaaa")
			checkNothing(t, list, "d"+s)
		}
	}
}

// P39, P41, P43: rights that would be valid after a repair by the call: without what is too much, in another order, or without the text that is dropped.
func TestRightsThatWouldBeMended(t *testing.T) {
	seven := []string{"", "a", "aa", "b", "bb", "c", "cc"}
	for _, s := range seven {
		checkNothing(t, seven, s)
	}
	checkNothing(t, []string{"b", "a"}, "c")
	checkNothing(t, []string{"a", "a"}, "a")
	checkNothing(t, []string{"", ""}, "")
	checkNothing(t, []string{"a", "b", "b"}, "b")
	checkNothing(t, []string{"a", "b", "a"}, "a")
	checkNothing(t, []string{"a", "d"}, "d")
	checkNothing(t, []string{"a", "aaaaa"}, "aaaa")
	checkNothing(t, []string{"a", "aaaaa"}, "aaaaa")
}

// P44: lists with six rights, and with one more at each place, which would fit into the order.
func TestSevenRights(t *testing.T) {
	for _, list := range validRights() {
		if len(list) < 6 {
			continue
		}
		for at := 0; at < 121; at += 5 {
			more := addedTo(list, eachRight[at])
			checkRights(t, more, len(more) == 6)
			if len(more) > 6 {
				checkNothing(t, more, eachRight[at])
			}
		}
	}
}

// P39, P41, P43: very long lists.
func TestVeryLongRights(t *testing.T) {
	for _, many := range []int{255, 256, 257, 262, 65536, 65542} {
		list := slices.Repeat(eachRight, many/121+1)[:many]
		checkRights(t, list, false)
		for _, s := range []string{"", "a", "cccc", "d"} {
			checkNothing(t, list, s)
		}
	}
}
