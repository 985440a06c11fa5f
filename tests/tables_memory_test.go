package tests

import (
	"slices"
	"strconv"
	"testing"

	"loop.example/exopager/impl"
)

// tableChanges pin and unpin frames of a memory; among them are those that are refused, and those that are invalid.
func tableChanges(m [][]int) []listChange[impl.Info] {
	all := []listChange[impl.Info]{}
	for _, frame := range []int{-1, 0, 1, 5, 9, 11, 12} {
		for _, kind := range []int{1, 2, 3} {
			for _, rights := range [][]string{nil, {""}, {"a", "bc"}, {"d"}} {
				name := "TablePin of " + strconv.Itoa(frame) + " as " + strconv.Itoa(kind)
				all = append(all, listChange[impl.Info]{name, func(list []impl.Info) []impl.Info {
					got, _ := impl.TablePin(m, list, frame, kind, rights)
					return got
				}})
			}
		}
		all = append(all, listChange[impl.Info]{"TableUnpin of " + strconv.Itoa(frame), func(list []impl.Info) []impl.Info {
			got, _ := impl.TableUnpin(m, list, frame)
			return got
		}})
	}
	return all
}

// changedMemory has tables at the frames that tableChanges pin and unpin.
func changedMemory() [][]int {
	m := evenMemory(0)
	m[0], m[1], m[5] = []int{5, 11, 0, 0}, []int{1, 2, 0, 0}, []int{5, 0, 13, 0}
	m[9], m[11] = []int{0, 17, 0, 0}, []int{5, 0, 7, 0}
	return m
}

// fullInfos has a frame that is used so often that frame 0, which names it, is not pinned, and one that is used too seldom for frame 11, which names it twice, to be unpinned.
func fullInfos() []impl.Info {
	list := withInfo(tableInfos(), 1, info(1, "ab", 1))
	list[2].Refs = 50
	return list
}

// listsToPin are valid and invalid lists.
func listsToPin() [][]impl.Info {
	lists := append(writtenInfos(), tableInfos(), readyInfos(), fullInfos(), withInfo(tableInfos(), 11, info(1, "", 0)))
	for i, x := range invalidInfos() {
		if i%997 == 0 && len(x.list) < 50 {
			lists = append(lists, x.list)
		}
	}
	return lists
}

// P56 to P61: among the changes are some with each code and for each reason, so that the tests below look at all that is returned.
func TestChangesOfTablesHaveEachCode(t *testing.T) {
	m, list := changedMemory(), tableInfos()
	low := withInfo(withInfo(withInfo(list, 0, info(2, "a", 0)), 1, info(1, "ab", 4)), 2, info(1, "b", 1))
	checkPin(t, m, list, 0, 2, []string{""}, low, 0)
	checkPin(t, m, fullInfos(), 0, 2, []string{""}, fullInfos(), 1)
	checkPin(t, m, list, 0, 3, []string{""}, list, 2)
	checkPin(t, m, list, 0, 1, []string{""}, nil, 3)
	checkPin(t, m, list, 1, 2, []string{""}, list, 1)
	checkUnpin(t, m, list, 11, withInfo(withInfo(list, 11, info(1, "", 0)), 1, info(1, "ab", 1)), 0)
	checkUnpin(t, m, list, 0, list, 1)
	checkUnpin(t, m, fullInfos(), 11, fullInfos(), 2)
	checkUnpin(t, m, list, 12, nil, 3)
}

// P56 to P61: no list is changed, nor what lies behind it, and nothing of this is read; a result shares nothing with the list of which it was made.
func TestPinnedListsShareNothing(t *testing.T) {
	for _, start := range listsToPin() {
		changes := tableChanges(changedMemory())
		checkUntouched(t, start, roomyInfos, changes)
		checkApart(t, start, roomyInfos, spoiledInfo, changes)
	}
}

// P56 to P61: two results of one list share nothing, whether they were done or refused.
func TestTwoPinnedListsShareNothing(t *testing.T) {
	for _, start := range [][]impl.Info{tableInfos(), fullInfos(), freeInfos(), readyInfos()} {
		checkResultsApart(t, start, roomyInfos, spoiledInfo, tableChanges(changedMemory()))
	}
}

// roomyMemory is a memory whose frames lie in one slice, with words behind each of them, which name frames; and this slice.
func roomyMemory(m [][]int) ([][]int, []int) {
	store := []int{}
	for i, words := range m {
		store = append(store, words...)
		store = append(store, entriesOf[i], entriesOf[12+i], 5, 9)
	}
	outer := make([][]int, 0, 20)
	for frame := range m {
		outer = append(outer, store[8*frame:8*frame+4])
	}
	return outer, store
}

// P52, P55, P56, P61: the memory, the list and the rights are as they were after each call, and so is what lies behind them, which is not read either.
func TestTablesLeaveTheirArguments(t *testing.T) {
	for _, start := range append(tableMemories()[:40], changedMemory()) {
		for _, known := range [][]impl.Info{tableInfos(), fullInfos(), readyInfos(), dataInfos(), withInfo(tableInfos(), 5, info(4, "", 0))} {
			m, store := roomyMemory(start)
			list, rights := roomyInfos(known), roomyRights([]string{"a", "bc"})
			words, infos, texts := slices.Clone(store), slices.Clone(list[:cap(list)]), slices.Clone(rights[:cap(rights)])
			checkCount(t, m, list, impl.TableCount(start, known)...)
			for frame := -1; frame <= 12; frame++ {
				for kind := 1; kind <= 3; kind++ {
					checkOk(t, m, list, frame, kind, rights, impl.TableOk(start, known, frame, kind, []string{"a", "bc"}))
					want, code := impl.TablePin(start, known, frame, kind, []string{"a", "bc"})
					checkPin(t, m, list, frame, kind, rights, want, code)
				}
				want, code := impl.TableUnpin(start, known, frame)
				checkUnpin(t, m, list, frame, want, code)
			}
			if !slices.Equal(store, words) || !slices.Equal(list[:cap(list)], infos) || !slices.Equal(rights[:cap(rights)], texts) {
				t.Fatalf("%v, %v and %v are changed to %v, %v and %v", words, infos, texts, store, list[:cap(list)], rights[:cap(rights)])
			}
			for _, behind := range m[len(m):cap(m)] {
				if behind != nil {
					t.Fatalf("%v is written behind the frames", behind)
				}
			}
		}
	}
}

// P55: counts share nothing with the memory or the list, nor with those of another call, not even by an append.
func TestCountsShareNothing(t *testing.T) {
	for _, start := range [][][]int{changedMemory(), chainMemory(), selfMemory(), evenMemory(0)} {
		m, list := copyOf(start), tableInfos()
		one, two := impl.TableCount(m, list), impl.TableCount(m, list)
		want := countsOf(start, tableInfos())
		longer := append(two, 7)
		_ = append(one, -1, -2)
		spoilList(one)
		if !slices.Equal(two, want) || !slices.Equal(longer, append(want, 7)) {
			t.Errorf("a change of the counts changes others from %v to %v", want, longer)
		}
		if !sameMemory(m, start) || !slices.Equal(list, tableInfos()) {
			t.Errorf("a change of the counts changes %v and %v", m, list)
		}
		three := impl.TableCount(m, list)
		spoil(m)
		spoilInfos(list)
		if !slices.Equal(three, want) {
			t.Errorf("a change of the arguments changes the counts from %v to %v", want, three)
		}
	}
}

// P52, P55, P56, P61: all frames of the memory may be one and the same slice.
func TestTablesInFramesOfOneSlice(t *testing.T) {
	words := []int{5, 0, 7, 9}
	m := slices.Repeat([][]int{words}, 12)
	list := withInfo(slices.Repeat([]impl.Info{info(1, "a", 4)}, 12), 0, info(1, "b", 0))
	want := withInfo(withInfo(withInfo(list, 0, info(2, "b", 0)), 1, info(1, "a", 6)), 2, info(1, "a", 5))
	checkOk(t, m, list, 0, 2, []string{"a"}, true)
	checkOk(t, m, list, 1, 2, []string{"a"}, false)
	checkPin(t, m, list, 0, 2, []string{"a"}, want, 0)
	checkCount(t, m, want, 0, 2, 1, 0, 0, 0, 0, 0, 0, 0, 0, 0)
	checkUnpin(t, m, want, 0, list, 0)
	if !slices.Equal(words, []int{5, 0, 7, 9}) {
		t.Errorf("the frames are changed to %v", words)
	}
}

// P51 to P62: a call depends on nothing that earlier calls did.
func TestNoTableIsKept(t *testing.T) {
	m, list := framesMemory(0, 5, 0, 0, 0), tableInfos()
	low := withInfo(withInfo(list, 0, info(2, "a", 0)), 1, info(1, "ab", 4))
	checkPin(t, m, list, 0, 2, []string{"ab"}, low, 0)
	checkPin(t, m, list, 0, 2, []string{"ab"}, low, 0)
	checkPin(t, m, list, 0, 2, []string{"b"}, list, 2)
	checkCount(t, m, low, 0, 1, 0, 0, 0, 0, 0, 0, 0, 0, 0, 0)
	checkCount(t, m, list, make([]int, 12)...)
	checkUnpin(t, m, low, 0, list, 0)
	checkUnpin(t, m, list, 0, list, 1)
	m[0][0] = 17
	checkPin(t, m, list, 0, 2, []string{"a"}, list, 2)
	checkOk(t, m, list, 0, 3, []string{"a"}, true)
	list[4] = info(2, "b", 50)
	checkOk(t, m, list, 0, 3, []string{"a"}, false)
	checkOk(t, m, list, 0, 3, []string{"b"}, true)
	checkPin(t, m, list, 0, 3, []string{"b"}, list, 1)
	m[0][0] = 0
	checkPin(t, m, list, 0, 3, nil, withInfo(list, 0, info(3, "a", 0)), 0)
	m[0][0] = 10000
	checkNoTables(t, "a change", m, list)
	checkOk(t, evenMemory(0), tableInfos(), 0, 2, nil, true)
}
