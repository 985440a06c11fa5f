package tests

import (
	"slices"
	"testing"

	"loop.example/exopager/impl"
)

// P39: rights that are written out. A right allows none that is shorter.
func TestWrittenGuards(t *testing.T) {
	list := []string{"aa", "b", "cab"}
	for _, s := range []string{"aa", "aab", "aacc", "b", "ba", "bcab", "cab", "caba"} {
		checkMay(t, list, s, true)
	}
	for _, s := range []string{"", "a", "ab", "aba", "c", "ca", "caa", "cb", "cba", "acab"} {
		checkMay(t, list, s, false)
	}
}

// P39: the empty right allows each one, alone and in front of others, and only it allows the empty right; no rights allow none.
func TestGuardsAndTheEmptyRight(t *testing.T) {
	for _, s := range eachRight {
		checkMay(t, nil, s, false)
		checkMay(t, []string{}, s, false)
		checkMay(t, []string{""}, s, true)
		checkMay(t, []string{"", "bb"}, s, true)
		checkMay(t, []string{"", "a", "aa", "aaa", "aaaa", "b"}, s, true)
		checkMay(t, []string{s}, "", s == "")
	}
	checkMay(t, []string{"a", "b", "c"}, "", false)
	checkMay(t, []string{"", "c"}, "", true)
}

// P39, P40: all rights for many lists. If a right is allowed, each longer one is.
func TestGuardsOfManyLists(t *testing.T) {
	for _, list := range append(validRights(), listsOf(eachRight, 2)...) {
		for _, s := range eachRight {
			checkMay(t, list, s, mayBy(list, s))
		}
	}
	for _, list := range validRights() {
		for _, s := range eachRight {
			if !impl.RightsMay(list, s) {
				continue
			}
			for _, letter := range []string{"a", "b", "c"} {
				checkMay(t, list, s+letter, len(s) < 4)
			}
		}
	}
}

// P41: a right in front of, between and behind others, one that is there, and one that begins with another.
func TestWrittenAdditions(t *testing.T) {
	checkAdded(t, nil, "ab", "ab")
	checkAdded(t, []string{}, "", "")
	checkAdded(t, []string{"b", "bb"}, "a", "a", "b", "bb")
	checkAdded(t, []string{"b", "bb"}, "ba", "b", "ba", "bb")
	checkAdded(t, []string{"b", "bb"}, "bba", "b", "bb", "bba")
	checkAdded(t, []string{"b", "bb"}, "c", "b", "bb", "c")
	checkAdded(t, []string{"b", "bb"}, "b", "b", "bb")
	checkAdded(t, []string{"b", "bb"}, "bb", "b", "bb")
	checkAdded(t, []string{"ab"}, "aa", "aa", "ab")
	checkAdded(t, []string{"ab"}, "a", "a", "ab")
	checkAdded(t, []string{"ab"}, "aba", "ab", "aba")
	checkAdded(t, []string{"a", "b", "ba", "bb", "c"}, "bab", "a", "b", "ba", "bab", "bb", "c")
}

// P41: the empty right is added in front of all others, and a right is added though the empty one includes it.
func TestAdditionsAndTheEmptyRight(t *testing.T) {
	checkAdded(t, nil, "", "")
	checkAdded(t, []string{""}, "", "")
	checkAdded(t, []string{"a", "c"}, "", "", "a", "c")
	checkAdded(t, []string{"", "a", "c"}, "", "", "a", "c")
	checkAdded(t, []string{""}, "abca", "", "abca")
	checkAdded(t, []string{"", "c"}, "b", "", "b", "c")
	checkAdded(t, []string{"a", "aa", "aaa", "aaaa", "b"}, "", "", "a", "aa", "aaa", "aaaa", "b")
}

// P41, P42: six rights, and one that is there, or that is not.
func TestAdditionsToSixRights(t *testing.T) {
	full := []string{"", "a", "aa", "ab", "b", "c"}
	for _, s := range full {
		checkAdded(t, full, s, full...)
	}
	for _, s := range []string{"aaa", "aab", "ac", "ba", "bcab", "ca", "cccc"} {
		checkNoRoom(t, full, s)
	}
	checkNoRoom(t, []string{"a", "aa", "ab", "b", "ba", "c"}, "")
	checkNoRoom(t, []string{"aaaa", "abab", "bbbb", "bcbc", "caca", "cccc"}, "")
	checkNoRoom(t, []string{"aa", "ab", "ac", "ba", "bb", "bc"}, "a")
	checkNoRoom(t, []string{"aa", "ab", "ac", "ba", "bb", "bc"}, "cccc")
}

// P41, P42: all rights for many lists. What is done again changes nothing.
func TestAdditionsToManyLists(t *testing.T) {
	full, there := 0, 0
	for _, list := range validRights() {
		for _, s := range eachRight {
			want := addedTo(list, s)
			if len(want) > 6 {
				checkNoRoom(t, list, s)
				full++
				continue
			}
			checkAdded(t, list, s, want...)
			if len(want) == len(list) {
				there++
				continue
			}
			got, _ := impl.RightsAdd(list, s)
			checkRights(t, got, true)
			checkAdded(t, got, s, want...)
			checkMay(t, got, s, true)
		}
	}
	if full < 1000 || there < 1000 {
		t.Errorf("the right found no room %d times, and was there %d times", full, there)
	}
}

// P41: every two rights, one added to the other.
func TestAdditionsOfPairs(t *testing.T) {
	for at, a := range eachRight {
		for to, b := range eachRight {
			switch {
			case at < to:
				checkAdded(t, []string{a}, b, a, b)
			case at > to:
				checkAdded(t, []string{a}, b, b, a)
			default:
				checkAdded(t, []string{a}, b, a)
			}
		}
	}
}

// P41, P42: rights added one after the other, in any order, until there are six; all others find no room.
func TestAdditionsOneAfterTheOther(t *testing.T) {
	for from := range 121 {
		list, rights := []string{}, []string{}
		for i := range 121 {
			s := eachRight[(from+i*37)%121]
			if i >= 6 {
				checkNoRoom(t, list, s)
				continue
			}
			rights = append(rights, s)
			list, _ = impl.RightsAdd(list, s)
		}
		want := rightsWhere(func(s string) bool { return slices.Contains(rights, s) })
		if !slices.Equal(list, want) {
			t.Errorf("%q one after the other are %q", rights, list)
		}
	}
}

// P43: a right that includes none, one, some and all of a list, and that need not be in it.
func TestWrittenDrops(t *testing.T) {
	list := []string{"a", "aa", "aab", "b", "ca", "cab"}
	checkLeft(t, list, "bb", list...)
	checkLeft(t, list, "ab", list...)
	checkLeft(t, list, "aaba", list...)
	checkLeft(t, list, "caba", list...)
	checkLeft(t, list, "b", "a", "aa", "aab", "ca", "cab")
	checkLeft(t, list, "aab", "a", "aa", "b", "ca", "cab")
	checkLeft(t, list, "cab", "a", "aa", "aab", "b", "ca")
	checkLeft(t, list, "aa", "a", "b", "ca", "cab")
	checkLeft(t, list, "a", "b", "ca", "cab")
	checkLeft(t, list, "c", "a", "aa", "aab", "b")
	checkLeft(t, []string{"ab", "abc", "abca"}, "ab")
	checkLeft(t, []string{"ab", "abc", "abca"}, "a")
	checkLeft(t, []string{"ab"}, "ab")
	checkLeft(t, []string{"ab"}, "abc", "ab")
}

// P43: the empty right includes each one; it is dropped by no other right.
func TestDropsAndTheEmptyRight(t *testing.T) {
	for _, list := range validRights() {
		checkLeft(t, list, "")
	}
	checkLeft(t, []string{""}, "a", "")
	checkLeft(t, []string{"", "a", "ab", "b"}, "a", "", "b")
	checkLeft(t, []string{"", "cccc"}, "cccc", "")
	for _, s := range eachRight {
		checkLeft(t, nil, s)
		checkLeft(t, []string{}, s)
	}
}

// P43: all rights for many lists. What is done again changes nothing, and a right that was dropped is allowed only by shorter ones.
func TestDropsOfManyLists(t *testing.T) {
	none, some, all := 0, 0, 0
	for _, list := range validRights() {
		for _, s := range eachRight {
			want := droppedFrom(list, s)
			checkLeft(t, list, s, want...)
			checkLeft(t, want, s, want...)
			checkMay(t, want, s, slices.ContainsFunc(list, func(x string) bool { return x != s && includes[[2]string{x, s}] }))
			switch len(want) {
			case len(list):
				none++
			case 0:
				all++
			default:
				some++
			}
		}
	}
	if none < 1000 || some < 1000 || all < 1000 {
		t.Errorf("none, some and all rights were dropped %d, %d and %d times", none, some, all)
	}
}

// P43: every two rights, and each right dropped that one of them includes, or that includes it.
func TestDropsOfPairs(t *testing.T) {
	for _, list := range listsOf(eachRight, 2) {
		for _, x := range list {
			for long := range len(x) + 1 {
				checkLeft(t, list, x[:long], droppedFrom(list, x[:long])...)
			}
			for _, s := range rightsFrom(x) {
				checkLeft(t, list, s, droppedFrom(list, s)...)
			}
		}
	}
}

// P41, P43: a right that is added to rights that it does not include, and dropped again, is gone, and all others are there.
func TestAdditionsThenDrops(t *testing.T) {
	for _, list := range validRights() {
		for _, s := range eachRight {
			others := droppedFrom(list, s)
			got, ok := impl.RightsAdd(others, s)
			if ok {
				checkLeft(t, got, s, others...)
			}
		}
	}
}
