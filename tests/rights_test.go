package tests

import (
	"slices"
	"strings"
	"testing"

	"loop.example/exopager/impl"
)

func TestConstantsOfRights(t *testing.T) {
	if impl.RightLong != 4 || impl.RightsMax != 6 {
		t.Errorf("a right has %d letters, and an environment %d rights", impl.RightLong, impl.RightsMax)
	}
}

// P36: the empty right, each letter, rights with four letters and with one more.
func TestWrittenTexts(t *testing.T) {
	for _, s := range []string{"", "a", "b", "c", "ab", "cc", "abc", "bac", "aaaa", "abca", "cbab", "cccc"} {
		checkRight(t, s, true)
	}
	for _, s := range []string{"d", "A", "B", "C", "`", " ", "a ", " a", "a b", "\x00", "\xff", "ä", "aaaaa", "ccccc", "abcab", "abcd", "dabc", "abdc", "a\n", "ab,c", "0"} {
		checkRight(t, s, false)
	}
}

// P36: all rights, without their last letter, and with a further one behind them.
func TestAllRights(t *testing.T) {
	if len(eachRight) != 121 {
		t.Fatalf("there are %d rights", len(eachRight))
	}
	for _, s := range eachRight {
		checkRight(t, s, true)
		if len(s) > 0 {
			checkRight(t, s[:len(s)-1], true)
		}
		checkRight(t, s+"d", false)
		for _, letter := range []string{"a", "b", "c"} {
			checkRight(t, s+letter, len(s) < 4)
			checkRight(t, letter+s, len(s) < 4)
		}
		for _, bad := range badLetters() {
			for at := range len(s) + 1 {
				checkRight(t, s[:at]+bad+s[at:], false)
			}
			for at := range len(s) {
				checkRight(t, s[:at]+bad+s[at+1:], false)
			}
		}
	}
}

// P36: every text of up to five of eight bytes.
func TestAllTextsOfSomeBytes(t *testing.T) {
	texts := []string{""}
	for range 5 {
		longer := []string{}
		for _, s := range texts {
			for _, letter := range []string{"a", "b", "c", "d", "`", "A", "\x00", "\xe1"} {
				longer = append(longer, s+letter)
			}
		}
		for _, s := range longer {
			_, right := rankOf[s]
			checkRight(t, s, right)
		}
		texts = longer
	}
}

// P36: texts that are too long, though all their letters are good.
func TestLongTexts(t *testing.T) {
	for _, s := range badTexts() {
		checkRight(t, s, false)
	}
	for many := 5; many <= 600; many++ {
		checkRight(t, strings.Repeat("b", many), false)
	}
	checkRight(t, strings.Repeat("c", 1<<20), false)
}

// P37, P38: pairs that are written out.
func TestWrittenInclusions(t *testing.T) {
	for _, x := range [][2]string{{"", ""}, {"", "a"}, {"", "cccc"}, {"a", "a"}, {"a", "ab"}, {"a", "acab"}, {"ab", "abc"}, {"abc", "abca"}, {"abca", "abca"}, {"c", "cc"}, {"bb", "bbbb"}} {
		checkCovers(t, x[0], x[1], true)
	}
	for _, x := range [][2]string{{"a", ""}, {"cccc", ""}, {"ab", "a"}, {"a", "b"}, {"b", "ab"}, {"c", "abc"}, {"ab", "aab"}, {"abca", "abc"}, {"abca", "abcb"}, {"bb", "bab"}, {"aa", "abaa"}, {"ca", "cba"}} {
		checkCovers(t, x[0], x[1], false)
	}
}

// P37, P38: all rights in pairs.
func TestAllPairsOfRights(t *testing.T) {
	many := 0
	for _, a := range eachRight {
		for _, b := range eachRight {
			want := includes[[2]string{a, b}]
			checkCovers(t, a, b, want)
			if impl.RightCovers(a, b) && impl.RightCovers(b, a) != (a == b) {
				t.Errorf("%q and %q include each other", a, b)
			}
			if want {
				many++
			}
		}
		checkCovers(t, "", a, true)
		checkCovers(t, a, a, true)
		checkCovers(t, a, "", a == "")
	}
	if many != 547 {
		t.Errorf("%d pairs include each other, not 547", many)
	}
}

// P37: a text that is no right neither includes one nor is it included, though it begins with the other one.
func TestInclusionsOfNoRight(t *testing.T) {
	for _, bad := range badTexts() {
		checkCovers(t, bad, bad, false)
		for long := range min(len(bad), 6) + 1 {
			checkCovers(t, bad[:long], bad, false)
			checkCovers(t, bad, bad[:long], false)
		}
		for _, s := range []string{"", "a", "abc", "cccc"} {
			checkCovers(t, s, bad, false)
			checkCovers(t, bad, s, false)
			checkCovers(t, s, s+bad, false)
			checkCovers(t, bad, bad+s, false)
		}
	}
	for _, a := range eachRight {
		for _, bad := range someBadTexts() {
			checkCovers(t, a, a+bad, false)
			checkCovers(t, a+bad, a, false)
			checkCovers(t, a+bad, a+bad, false)
			checkCovers(t, a, bad+a, false)
		}
	}
}

// P44: lists with no, one, some and six rights.
func TestWrittenRights(t *testing.T) {
	lengths := [7]int{}
	for _, list := range validRights() {
		checkRights(t, list, true)
		lengths[len(list)]++
	}
	for long, many := range lengths {
		if many == 0 {
			t.Errorf("no list has %d rights", long)
		}
	}
	checkRights(t, make([]string, 0, 9), true)
	checkRights(t, []string{"c", "a"}[:0], true)
	checkRights(t, []string{"a", "c", "b"}[:2], true)
}

// P44: all rights alone, and every two of them, of which the second one must come later.
func TestRightsOfOneAndTwo(t *testing.T) {
	for at, a := range eachRight {
		checkRights(t, []string{a}, true)
		for to, b := range eachRight {
			checkRights(t, []string{a, b}, at < to)
		}
	}
}

// P44: every order of three and of six rights: only one ascends.
func TestRightsInEachOrder(t *testing.T) {
	for _, list := range [][]string{{"", "a", "ab"}, {"aa", "ab", "b"}, {"aab", "ab", "b"}, {"", "a", "aa", "aaa", "aaaa", "b"}, {"a", "ab", "b", "bc", "c", "ca"}} {
		for _, order := range permutations(list) {
			checkRights(t, order, slices.Equal(order, list))
		}
	}
}

// permutations are all orders of a list.
func permutations[T any](list []T) [][]T {
	if len(list) == 0 {
		return [][]T{{}}
	}
	all := [][]T{}
	for _, rest := range permutations(list[1:]) {
		for at := range len(rest) + 1 {
			all = append(all, slices.Insert(slices.Clone(rest), at, list[0]))
		}
	}
	return all
}

// P44: valid rights without any one of them, and with one twice.
func TestRightsWithoutOneAndWithOneTwice(t *testing.T) {
	for _, list := range validRights() {
		for at, s := range list {
			checkRights(t, slices.Delete(slices.Clone(list), at, at+1), true)
			for to := range len(list) + 1 {
				checkRights(t, slices.Insert(slices.Clone(list), to, s), false)
			}
		}
	}
}
