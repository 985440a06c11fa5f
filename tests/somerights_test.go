package tests

import (
	"slices"
	"strconv"
	"strings"
	"testing"

	"loop.example/exopager/impl"
)

// rightsFrom are a right and all that it includes, in ascending order. The order comes from how they are made, not from comparing texts as the program does.
func rightsFrom(s string) []string {
	list := []string{s}
	if len(s) < 4 {
		for _, letter := range []string{"a", "b", "c"} {
			list = append(list, rightsFrom(s+letter)...)
		}
	}
	return list
}

// eachRight has all 121 rights in ascending order, shortRights the 13 of up to two letters.
var (
	eachRight   = rightsFrom("")
	shortRights = rightsWhere(func(s string) bool { return len(s) <= 2 })
)

// rankOf has the place of each right in eachRight; a text that is no right is not in it.
var rankOf = ranks()

func ranks() map[string]int {
	places := map[string]int{}
	for at, s := range eachRight {
		places[s] = at
	}
	return places
}

// includes has the pairs of a right and one that it includes.
var includes = inclusions()

func inclusions() map[[2]string]bool {
	pairs := map[[2]string]bool{}
	for _, a := range eachRight {
		for _, b := range rightsFrom(a) {
			pairs[[2]string{a, b}] = true
		}
	}
	return pairs
}

// rightsWhere are the rights for which a condition holds, in ascending order.
func rightsWhere(holds func(s string) bool) []string {
	list := []string{}
	for _, s := range eachRight {
		if holds(s) {
			list = append(list, s)
		}
	}
	return list
}

// mayBy tells whether one of the rights includes another one.
func mayBy(list []string, guard string) bool {
	return slices.ContainsFunc(list, func(x string) bool { return includes[[2]string{x, guard}] })
}

// addedTo are the rights with a further one at its place, though they may be too many then.
func addedTo(list []string, s string) []string {
	at := 0
	for at < len(list) && rankOf[list[at]] < rankOf[s] {
		at++
	}
	if at < len(list) && list[at] == s {
		return list
	}
	return slices.Insert(slices.Clone(list), at, s)
}

// droppedFrom are the rights that another one does not include.
func droppedFrom(list []string, s string) []string {
	return slices.DeleteFunc(slices.Clone(list), func(x string) bool { return includes[[2]string{s, x}] })
}

// listsOf are all lists of up to so many of some rights, in their order.
func listsOf(rights []string, most int) [][]string {
	all := [][]string{{}}
	for _, s := range rights {
		for _, list := range all {
			if len(list) < most {
				all = append(all, append(slices.Clone(list), s))
			}
		}
	}
	return all
}

// writtenRights has lists of all lengths: with the empty right and without it, with rights that include each other and with some that do not.
func writtenRights() [][]string {
	return [][]string{
		nil,
		{},
		{""},
		{"a"},
		{"cccc"},
		{"", "a"},
		{"", "cccc"},
		{"aa", "ab"},
		{"a", "aaaa"},
		{"b", "c"},
		{"", "b", "bb"},
		{"aab", "ab", "b"},
		{"a", "aa", "aaa", "aaaa"},
		{"abca", "abcb", "abcc", "ac"},
		{"", "a", "aa", "aaa", "aaaa"},
		{"aa", "b", "ba", "bac", "cb"},
		{"", "a", "aa", "aaa", "aaaa", "b"},
		{"", "c", "ca", "caa", "cab", "cac"},
		{"aa", "ab", "ac", "ba", "bb", "bc"},
		{"a", "ab", "b", "bc", "c", "ca"},
		{"aaaa", "abab", "bbbb", "bcbc", "caca", "cccc"},
	}
}

// mixedRights are some lists of each length of rights of any length.
func mixedRights() [][]string {
	all := [][]string{}
	number := 1
	for i := range 400 {
		list := []string{}
		for len(list) < i%6+1 {
			number = (number*1103 + 12345) % 1000003
			list = addedTo(list, eachRight[number%121])
		}
		all = append(all, list)
	}
	return all
}

// validRights are listed, mixed, and all lists of up to six rights of up to two letters.
func validRights() [][]string {
	return slices.Concat(writtenRights(), mixedRights(), listsOf(shortRights, 6))
}

// badLetters are all other bytes, letters of several bytes, some of whose last bytes or numbers look like those of "a", "b" and "c", and parts of such letters.
func badLetters() []string {
	list := []string{"ä", "š", "Ţ", "ţ", "а", "ａ", "á", "日", "😀", "\u0301", "\xc3", "\xe6\x97", "\xc1\xa1", "\xe0\x81\xa1"}
	for b := range 256 {
		if b < 'a' || b > 'c' {
			list = append(list, string([]byte{byte(b)}))
		}
	}
	return list
}

// mixedTexts have a bad letter in front, in the middle and at the end of rights, and in place of one of their letters.
func mixedTexts() []string {
	list := badLetters()
	for _, bad := range badLetters() {
		for _, s := range []string{"a", "b", "c", "ab", "cc", "abc", "bca", "aaaa", "cbac"} {
			for at := range len(s) + 1 {
				list = append(list, s[:at]+bad+s[at:])
				if at < len(s) {
					list = append(list, s[:at]+bad+s[at+1:])
				}
			}
		}
	}
	return list
}

// longTexts have too many letters, each of which a right may have: every text of five, and some longer ones, also of numbers that look small if only a part of them is kept.
func longTexts() []string {
	list := []string{}
	for _, s := range eachRight {
		if len(s) == 4 {
			list = append(list, s+"a", s+"b", s+"c", s+s)
		}
	}
	for _, many := range []int{6, 7, 15, 16, 17, 255, 256, 257, 258, 260, 65535, 65536, 65537, 65540} {
		for _, letter := range []string{"a", "b", "c"} {
			list = append(list, strings.Repeat(letter, many))
		}
		list = append(list, strings.Repeat("abc", many)[:many])
	}
	return list
}

func badTexts() []string {
	return slices.Concat(mixedTexts(), longTexts())
}

// someBadTexts are one of each kind.
func someBadTexts() []string {
	return []string{"d", "A", " ", "\x00", "\x7f", "\x80", "\xff", "ä", "š", "`", "ad", "da", "bAc", "a c", "\x00a", "abc\x00", "abcd", "dbca", "aaaaa", "ccccc", "abcabc", "ddddd", "aaaad"}
}

type namedRights struct {
	name string
	list []string
}

// doubledRights have one right twice, neighbouring or apart, at each two places. If there were six, there are too many then, too.
func doubledRights() []namedRights {
	all := []namedRights{}
	for _, start := range writtenRights() {
		for from, s := range start {
			for to := range len(start) + 1 {
				name := "the right at " + strconv.Itoa(from) + " again at " + strconv.Itoa(to)
				all = append(all, namedRights{name, slices.Insert(slices.Clone(start), to, s)})
			}
		}
	}
	return all
}

// unorderedRights have two rights exchanged, or all of them the other way round, or the first one last.
func unorderedRights() []namedRights {
	all := []namedRights{}
	for _, start := range writtenRights() {
		for from := range start {
			for to := from + 1; to < len(start); to++ {
				list := slices.Clone(start)
				list[from], list[to] = list[to], list[from]
				all = append(all, namedRights{strconv.Itoa(from) + " and " + strconv.Itoa(to) + " exchanged", list})
			}
		}
		if len(start) > 1 {
			back := slices.Clone(start)
			slices.Reverse(back)
			all = append(all, namedRights{"descending", back}, namedRights{"the first one last", slices.Concat(start[1:], start[:1])})
		}
	}
	return all
}

// badTextRights have a text that is no right at each place, in place of a right or between others, where its order is right, so that nothing else is wrong.
func badTextRights() []namedRights {
	all := []namedRights{}
	for _, start := range append(writtenRights(), mixedRights()[:60]...) {
		for at := range len(start) + 1 {
			for _, bad := range textsAround(start, at) {
				put := slices.Insert(slices.Clone(start), at, bad)
				if at < len(start) {
					all = appendAscending(all, "instead at "+strconv.Itoa(at), slices.Delete(slices.Clone(put), at+1, at+2))
				}
				all = appendAscending(all, "between at "+strconv.Itoa(at), put)
			}
		}
	}
	return all
}

// textsAround are no rights, and come shortly behind the right in front of a place, or are the one there with something behind it.
func textsAround(list []string, at int) []string {
	texts := someBadTexts()
	if at > 0 {
		texts = append(texts, list[at-1]+"\x00", list[at-1]+"d", list[at-1]+"aaaaa")
	}
	if at < len(list) {
		texts = append(texts, list[at]+"\x00", list[at]+"d", list[at]+"aaaaa")
	}
	return texts
}

// appendAscending leaves out what would be invalid without the text, too.
func appendAscending(all []namedRights, name string, list []string) []namedRights {
	if len(list) > 6 || !slices.IsSorted(list) {
		return all
	}
	return append(all, namedRights{name, list})
}

// longRights have too many rights, in ascending order.
func longRights() []namedRights {
	all := []namedRights{}
	for _, list := range listsOf(shortRights, 7) {
		if len(list) == 7 {
			all = append(all, namedRights{"7 short rights", list})
		}
	}
	for many := 7; many <= 121; many++ {
		all = append(all, namedRights{"the first " + strconv.Itoa(many), eachRight[:many]}, namedRights{"the last " + strconv.Itoa(many), eachRight[121-many:]})
	}
	return all
}

// faultyRights have several faults together.
func faultyRights() []namedRights {
	return []namedRights{
		{"two bad texts", []string{"A", "d"}},
		{"a bad text twice", []string{"d", "d"}},
		{"bad texts, descending", []string{"d", "A"}},
		{"a long text in front of a right that it begins with", []string{"aaaaa", "a"}},
		{"7 times the empty right", slices.Repeat([]string{""}, 7)},
		{"6 times the empty right", slices.Repeat([]string{""}, 6)},
		{"7 bad texts", []string{"d", "e", "f", "g", "h", "i", "j"}},
		{"7, descending", []string{"cc", "cb", "ca", "c", "b", "a", ""}},
		{"7, the last one a bad text", []string{"", "a", "aa", "ab", "ac", "b", "d"}},
		{"8, the first one a bad text", []string{" ", "a", "aa", "ab", "ac", "b", "c", "ca"}},
		{"all twice", slices.Repeat([]string{"a", "b", "c"}, 2)},
		{"256 times a right", slices.Repeat([]string{"a"}, 256)},
		{"65537 times a right", slices.Repeat([]string{"a"}, 65537)},
	}
}

func invalidRights() []namedRights {
	return slices.Concat(doubledRights(), unorderedRights(), badTextRights(), longRights(), faultyRights())
}

func checkRight(t *testing.T, s string, want bool) {
	t.Helper()
	if got := impl.RightValid(s); got != want {
		t.Errorf("RightValid(%.20q), of %d bytes, is %t", s, len(s), got)
	}
}

func checkCovers(t *testing.T, a string, b string, want bool) {
	t.Helper()
	if got := impl.RightCovers(a, b); got != want {
		t.Errorf("RightCovers(%.20q, %.20q) is %t", a, b, got)
	}
}

func checkRights(t *testing.T, list []string, want bool) {
	t.Helper()
	if got := impl.RightsValid(list); got != want {
		t.Errorf("RightsValid(%.20q) is %t", list[:min(len(list), 10)], got)
	}
}

func checkMay(t *testing.T, list []string, guard string, want bool) {
	t.Helper()
	if got := impl.RightsMay(list, guard); got != want {
		t.Errorf("RightsMay(%.20q, %.20q) is %t", list[:min(len(list), 10)], guard, got)
	}
}

func checkAdded(t *testing.T, list []string, s string, want ...string) {
	t.Helper()
	if got, ok := impl.RightsAdd(list, s); !slices.Equal(got, want) || !ok {
		t.Errorf("RightsAdd(%q, %q) is %q, %t, not %q", list, s, got, ok, want)
	}
}

// checkNoRoom expects the rights unchanged.
func checkNoRoom(t *testing.T, list []string, s string) {
	t.Helper()
	if got, ok := impl.RightsAdd(list, s); !slices.Equal(got, list) || ok {
		t.Errorf("RightsAdd(%q, %q) is %q, %t", list, s, got, ok)
	}
}

func checkLeft(t *testing.T, list []string, s string, want ...string) {
	t.Helper()
	if got := impl.RightsDrop(list, s); !slices.Equal(got, want) {
		t.Errorf("RightsDrop(%q, %q) is %q, not %q", list, s, got, want)
	}
}

// checkNothing expects that an argument is invalid.
func checkNothing(t *testing.T, list []string, s string) {
	t.Helper()
	checkMay(t, list, s, false)
	if got, ok := impl.RightsAdd(list, s); len(got) != 0 || ok {
		t.Errorf("RightsAdd(%.20q, %.20q) is %.20q, %t", list[:min(len(list), 10)], s, got, ok)
	}
	if got := impl.RightsDrop(list, s); len(got) != 0 {
		t.Errorf("RightsDrop(%.20q, %.20q) is %.20q", list[:min(len(list), 10)], s, got)
	}
}
