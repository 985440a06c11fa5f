package tests

import (
	"slices"
	"testing"

	"loop.example/exopager/impl"
)

// The codes are written as numbers here: 0 is done, 1 busy, 2 bad, and 3 invalid. needed has, for each kind, the one that a table of this kind needs.
var needed = []int{0, 0, 1, 2}

// entriesOf has both entries of each frame.
var entriesOf = slices.Concat(readEntries, writeEntries)

// namesOf is how many of some words name a frame.
func namesOf(words []int, frame int) int {
	many := 0
	for _, word := range words {
		if word == readEntries[frame] || word == writeEntries[frame] {
			many++
		}
	}
	return many
}

// goodWords tells what TableOk is for valid arguments.
func goodWords(m [][]int, list []impl.Info, frame int, kind int, rights []string) bool {
	for _, word := range m[frame] {
		other, _, ok := named(word)
		if word != 0 && (!ok || other == frame || list[other].Kind != needed[kind] || !mayBy(rights, list[other].Guard)) {
			return false
		}
	}
	return true
}

// countsOf is what TableCount is for valid arguments.
func countsOf(m [][]int, list []impl.Info) []int {
	counts := make([]int, 12)
	for table, x := range list {
		for frame := range counts {
			if x.Kind == 2 || x.Kind == 3 {
				counts[frame] += namesOf(m[table], frame)
			}
		}
	}
	return counts
}

// turnedInto is the list in which a frame has another kind, and the frames that its words name have so many more uses for each of them. It tells whether all uses are in range.
func turnedInto(m [][]int, list []impl.Info, frame int, kind int, by int) ([]impl.Info, bool) {
	other := slices.Clone(list)
	other[frame].Kind = kind
	ok := true
	for i := range other {
		other[i].Refs += by * namesOf(m[frame], i)
		most := 50
		if other[i].Kind == 0 {
			most = 0
		}
		ok = ok && other[i].Refs >= 0 && other[i].Refs <= most
	}
	return other, ok
}

// pinned is what TablePin returns for valid arguments.
func pinned(m [][]int, list []impl.Info, frame int, kind int, rights []string) ([]impl.Info, int) {
	if list[frame].Kind != 1 || list[frame].Refs != 0 {
		return list, 1
	}
	if !goodWords(m, list, frame, kind, rights) {
		return list, 2
	}
	if other, ok := turnedInto(m, list, frame, kind, 1); ok {
		return other, 0
	}
	return list, 1
}

// unpinned is what TableUnpin returns for valid arguments.
func unpinned(m [][]int, list []impl.Info, frame int) ([]impl.Info, int) {
	if list[frame].Kind < 2 || list[frame].Refs != 0 {
		return list, 1
	}
	if other, ok := turnedInto(m, list, frame, 1, -1); ok {
		return other, 0
	}
	return list, 2
}

// tableInfos has frames of each kind. Frame 0 has data that nothing uses, and the frames 9 and 11 are tables that nothing uses.
func tableInfos() []impl.Info {
	return []impl.Info{
		info(1, "a", 0), info(1, "ab", 3), info(1, "b", 0), info(1, "", 47),
		info(2, "a", 1), info(2, "bc", 0), info(2, "cccc", 47), {},
		info(1, "abca", 50), info(3, "b", 0), info(3, "a", 7), info(2, "", 0),
	}
}

// frameOf is a frame of any kind: a free one has neither a right nor uses.
func frameOf(kind int, guard string, refs int) impl.Info {
	if kind == 0 {
		return impl.Info{}
	}
	return info(kind, guard, refs)
}

// turnedList is a list with an element for each frame, whose frames lie some frames farther on, in a circle, as those of a memory in turned.
func turnedList[T any](list []T, by int) []T {
	other := make([]T, 12)
	for frame, x := range list {
		other[(frame+by)%12] = x
	}
	return other
}

// framesMemory has only frames of zeros but for one.
func framesMemory(frame int, words ...int) [][]int {
	return with(evenMemory(0), frame, words...)
}

// wordsNaming are four words that name some frames, with each of both entries in turn, and 0 behind them.
func wordsNaming(frames ...int) []int {
	words := make([]int, 4)
	for at, frame := range frames {
		words[at] = readEntries[frame]
		if (at+frame)%2 == 1 {
			words[at] = writeEntries[frame]
		}
	}
	return words
}

// fourOf are all lists of four of some words.
func fourOf(words []int) [][]int {
	all := [][]int{{}}
	for range 4 {
		longer := [][]int{}
		for _, list := range all {
			for _, word := range words {
				longer = append(longer, append(slices.Clone(list), word))
			}
		}
		all = longer
	}
	return all
}

// wordsOfEachKind name, of tableInfos, the frame 0 itself, data, a lower table, and a free frame, or nothing.
func wordsOfEachKind() []int {
	return []int{0, readEntries[0], writeEntries[1], readEntries[2], readEntries[3], writeEntries[4], readEntries[6], readEntries[7], 9999}
}

// tableRights are rights that allow all guards of tableInfos, some and none of them.
func tableRights() [][]string {
	return [][]string{nil, {""}, {"a"}, {"ab"}, {"a", "b"}, {"aba", "abb", "abc", "b"}, {"a", "b", "c"}, {"", "a", "b"}, {"aaaa", "abc", "bca", "cccc"}}
}

// someLists are lists of all kinds of frames, with few and many uses, free frames in any places, and frames of one kind.
func someLists() [][]impl.Info {
	all := writtenInfos()
	for by := range 12 {
		all = append(all, turnedList(tableInfos(), by))
	}
	for number := range 60 {
		all = append(all, withFree(usedInfos(number), framesOfNumber(number*31%4096)...))
	}
	return all
}

// fewGuards are lists with only two guards, and few uses or none, so that words are often good for them.
func fewGuards() [][]impl.Info {
	all := [][]impl.Info{}
	for number := range 200 {
		list := freeInfos()
		for i := range list {
			number = (number*1103 + 12345) % 1000003
			kind, refs := []int{1, 1, 1, 2, 2, 3}[number%6], []int{0, 0, 0, 1, 4, 48, 50}[number/12%7]
			list[i] = info(kind, []string{"a", "ab"}[number/6%2], refs)
		}
		all = append(all, list)
	}
	return all
}

// tableMemories are memories in which nearly all words are entries, many are 0, or the words are anything.
func tableMemories() [][][]int {
	all := append(spaces(), framesMemory(0, 0, 0, 0, 0))
	for number := range 60 {
		m := entriesMemory(number)
		for frame := range m {
			for at := range m[frame] {
				if (frame*5+at*3+number)%7 < 4 {
					m[frame][at] = 0
				}
			}
		}
		all = append(all, m)
	}
	return all
}

func checkOk(t *testing.T, m [][]int, list []impl.Info, frame int, kind int, rights []string, want bool) {
	t.Helper()
	if got := impl.TableOk(m, list, frame, kind, rights); got != want {
		t.Errorf("TableOk(%s, %s, %d, %d, %.20q) is %t", short(m), short(list), frame, kind, rights[:min(len(rights), 8)], got)
	}
}

func checkCount(t *testing.T, m [][]int, list []impl.Info, want ...int) {
	t.Helper()
	if got := impl.TableCount(m, list); !slices.Equal(got, want) {
		t.Errorf("TableCount(%s, %s) is %v, not %v", short(m), short(list), got, want)
	}
}

func checkPin(t *testing.T, m [][]int, list []impl.Info, frame int, kind int, rights []string, want []impl.Info, code int) {
	t.Helper()
	if got, n := impl.TablePin(m, list, frame, kind, rights); !slices.Equal(got, want) || n != code {
		t.Errorf("TablePin(%s, %s, %d, %d, %.20q) is %s, %d, not %s, %d", short(m), short(list), frame, kind, rights[:min(len(rights), 8)], short(got), n, short(want), code)
	}
}

func checkUnpin(t *testing.T, m [][]int, list []impl.Info, frame int, want []impl.Info, code int) {
	t.Helper()
	if got, n := impl.TableUnpin(m, list, frame); !slices.Equal(got, want) || n != code {
		t.Errorf("TableUnpin(%s, %s, %d) is %s, %d, not %s, %d", short(m), short(list), frame, short(got), n, short(want), code)
	}
}

// checkNoTable expects that an argument is invalid, for all functions but TableUnpin and TableCount, which have fewer.
func checkNoTable(t *testing.T, m [][]int, list []impl.Info, frame int, kind int, rights []string) {
	t.Helper()
	checkOk(t, m, list, frame, kind, rights, false)
	checkPin(t, m, list, frame, kind, rights, nil, 3)
}

// checkNoTables expects that the memory or the list is invalid: nothing can be done, whatever else is asked for.
func checkNoTables(t *testing.T, name string, m [][]int, list []impl.Info) {
	t.Helper()
	checkCount(t, m, list)
	for _, frame := range []int{0, 6, 11, -1, 12} {
		checkUnpin(t, m, list, frame, nil, 3)
		for kind := -1; kind <= 4; kind++ {
			checkNoTable(t, m, list, frame, kind, []string{""})
		}
	}
	checkNoTable(t, m, list, 5, 2, nil)
	checkNoTable(t, m, list, 5, 3, []string{"d"})
	if t.Failed() {
		t.Fatalf("with %s", name)
	}
}
