package tests

import (
	"slices"
	"testing"

	"loop.example/exopager/impl"
)

func TestConstantsOfTables(t *testing.T) {
	got := []int{impl.PinDone, impl.PinBusy, impl.PinBad, impl.PinInvalid}
	if !slices.Equal(got, []int{0, 1, 2, 3}) {
		t.Errorf("the codes are %v", got)
	}
}

// P51
func TestNeedsOfKinds(t *testing.T) {
	check := func(kind int, want int) {
		t.Helper()
		if got := impl.TableNeeds(kind); got != want {
			t.Errorf("TableNeeds(%d) is %d, not %d", kind, got, want)
		}
	}
	check(impl.KindTop, impl.KindLow)
	check(impl.KindLow, impl.KindData)
	for kind, want := range needed {
		check(kind, want)
	}
	for _, kind := range append(allNumbers(), badKinds()...) {
		if kind != 2 && kind != 3 {
			check(kind, 0)
		}
	}
}

// P52: words that are written out, for a lower table and for an upper one. The frames are under the rights a, ab, b and none, and a, bc, cccc and none.
func TestWrittenTables(t *testing.T) {
	check := func(kind int, want bool, rights []string, words ...int) {
		t.Helper()
		checkOk(t, framesMemory(0, words...), tableInfos(), 0, kind, rights, want)
	}
	check(2, true, nil, 0, 0, 0, 0)
	check(2, true, []string{"ab"}, 5, 0, 0, 0)
	check(2, true, []string{"ab"}, 0, 0, 0, 7)
	check(2, true, []string{"ab"}, 5, 7, 33, 35)
	check(2, true, []string{"ab", "b"}, 5, 0, 11, 0)
	check(2, false, []string{"b"}, 5, 0, 11, 0)
	check(2, false, []string{"ab"}, 5, 0, 11, 0)
	check(2, false, []string{"abc"}, 5, 0, 0, 0)
	check(2, true, []string{"abc"}, 33, 0, 0, 0)
	check(2, false, []string{"a", "b", "c"}, 13, 0, 0, 0)
	check(2, true, []string{""}, 13, 11, 7, 33)
	check(2, false, nil, 5, 0, 0, 0)
	check(2, false, []string{""}, 1, 0, 0, 0)
	check(2, false, []string{""}, 17, 0, 0, 0)
	check(2, false, []string{""}, 29, 0, 0, 0)
	check(2, false, []string{""}, 37, 0, 0, 0)
	check(2, false, []string{""}, 2, 0, 0, 0)
	check(3, true, nil, 0, 0, 0, 0)
	check(3, true, []string{"a"}, 0, 17, 19, 0)
	check(3, true, []string{"a", "bc", "cccc"}, 17, 23, 0, 25)
	check(3, false, []string{"a", "bca", "cccc"}, 17, 23, 0, 25)
	check(3, false, []string{"a", "b", "c"}, 45, 0, 0, 0)
	check(3, true, []string{""}, 47, 45, 27, 21)
	check(3, false, []string{""}, 5, 0, 0, 0)
	check(3, false, []string{""}, 39, 0, 0, 0)
	check(3, false, []string{""}, 17, 17, 17, 9999)
}

// P52, P54: all lists of four words that name the frame itself, data, lower tables and free frames, or nothing, for both kinds and for each place of the frames.
func TestTablesOfAllWordsOfEachKind(t *testing.T) {
	done, many := map[bool]int{}, 0
	for i, words := range fourOf(wordsOfEachKind()) {
		by := i % 12
		m, list := turned(framesMemory(0, words...), by), turnedList(tableInfos(), by)
		for _, rights := range tableRights() {
			for kind := 2; kind <= 3; kind++ {
				want := goodWords(m, list, by, kind, rights)
				checkOk(t, m, list, by, kind, rights, want)
				done[want]++
				many++
			}
		}
	}
	if done[true] < 1000 || done[false] < 1000 {
		t.Errorf("of %d, good and not good are %v", many, done)
	}
}

// P52, P53: many lists and memories, and frames of all kinds, used or not: what the frame itself is makes no difference.
func TestTablesOfManyLists(t *testing.T) {
	good := 0
	lists := append(someLists(), fewGuards()...)
	for i, m := range tableMemories() {
		for j := range 24 {
			list := lists[(i*24+j)%len(lists)]
			for frame := range 12 {
				for kind := 2; kind <= 3; kind++ {
					for _, rights := range [][]string{nil, {"a"}, {"ab", "b"}, {""}} {
						want := goodWords(m, list, frame, kind, rights)
						checkOk(t, m, list, frame, kind, rights, want)
						if want {
							good++
							checkOk(t, m, list, frame, kind, []string{""}, true)
						}
					}
				}
			}
		}
	}
	if good < 10000 {
		t.Errorf("only %d are good", good)
	}
}

// P53: no rights at all are less than the empty right, and what is good for rights is good for more of them.
func TestTablesUnderMoreRights(t *testing.T) {
	good := 0
	for _, words := range fourOf(wordsOfEachKind()) {
		m, list := framesMemory(0, words...), tableInfos()
		for _, rights := range tableRights() {
			for kind := 2; kind <= 3; kind++ {
				if !impl.TableOk(m, list, 0, kind, rights) {
					continue
				}
				good++
				checkOk(t, m, list, 0, kind, []string{""}, true)
				if more, ok := impl.RightsAdd(rights, "cb"); ok {
					checkOk(t, m, list, 0, kind, more, true)
				}
			}
			checkOk(t, m, list, 0, 1, rights, false)
		}
	}
	if good < 500 {
		t.Errorf("only %d are good", good)
	}
}

// P53: kinds that are not those of tables have no good words, not even zeros.
func TestTablesOfOtherKinds(t *testing.T) {
	for _, m := range [][][]int{evenMemory(0), evenMemory(writeEntries[1]), framesMemory(0, 5, 0, 0, 0)} {
		for _, kind := range append(badKinds(), 0, 1, 4, -1, 5, 256, 258, 259) {
			for _, frame := range []int{0, 7, 11} {
				checkOk(t, m, tableInfos(), frame, kind, []string{""}, false)
				checkOk(t, m, dataInfos(), frame, kind, []string{""}, false)
			}
		}
	}
}

// P52: each word that there is, at each place.
func TestTablesWithAllWords(t *testing.T) {
	for word := range 10000 {
		for kind := 2; kind <= 3; kind++ {
			frame, at := word*5%12, (word/3+kind)%4
			m, list := evenMemory(0), turnedList(tableInfos(), word%12)
			m[frame][at] = word
			checkOk(t, m, list, frame, kind, []string{""}, goodWords(m, list, frame, kind, []string{""}))
		}
	}
}

// P52: words that are no entries at each place, alone, and among words that are good.
func TestTablesWithWordsThatAreNoEntries(t *testing.T) {
	for frame := range 12 {
		for at := range 4 {
			for _, word := range badEntries() {
				for kind := 2; kind <= 3; kind++ {
					list := withInfo(slices.Repeat([]impl.Info{info(kind-1, "a", 0)}, 12), frame, info(1, "a", 0))
					good := readEntries[(frame+1)%12]
					checkOk(t, framesMemory(frame, good, good, good, good), list, frame, kind, []string{"a"}, true)
					checkOk(t, withWord(framesMemory(frame, good, good, good, good), frame, at, word), list, frame, kind, []string{"a"}, word == 0)
					checkOk(t, withWord(evenMemory(0), frame, at, word), list, frame, kind, []string{"a"}, word == 0)
				}
			}
		}
	}
}

// P52: an entry of each other frame at each place, by both entries: just those of the kind that is needed are good, and just if the rights allow them.
func TestTablesThatNameOneFrame(t *testing.T) {
	for frame := range 12 {
		for other := range 12 {
			for at := range 4 {
				for of := range 4 {
					list := withInfo(freeInfos(), other, frameOf(of, "bb", 0))
					list[frame] = info(1, "a", 0)
					for kind := 2; kind <= 3; kind++ {
						for _, word := range []int{readEntries[other], writeEntries[other]} {
							m := withWord(evenMemory(0), frame, at, word)
							want := other != frame && of == kind-1
							checkOk(t, m, list, frame, kind, []string{""}, want)
							checkOk(t, m, list, frame, kind, []string{"b"}, want)
							checkOk(t, m, list, frame, kind, []string{"a", "bb"}, want)
							checkOk(t, m, list, frame, kind, []string{"a", "bba", "bc"}, false)
							checkOk(t, m, list, frame, kind, nil, false)
						}
					}
				}
			}
		}
	}
}

// P52: each guard for each right alone.
func TestTablesUnderAllRights(t *testing.T) {
	for i, guard := range eachRight {
		for j, right := range eachRight {
			frame, other, kind := i%12, (i+1+j%11)%12, 2+(i+j)%2
			list := withInfo(withInfo(freeInfos(), frame, info(1, "", 0)), other, info(kind-1, guard, 50))
			m := withWord(evenMemory(0), frame, j%4, entriesOf[other+12*(j%2)])
			checkOk(t, m, list, frame, kind, []string{right}, includes[[2]string{right, guard}])
		}
	}
}

// P54: zeros are good for all valid arguments, whatever the frame is, also without any right.
func TestTablesOfZeros(t *testing.T) {
	all := validRights()
	for i, list := range append(someLists(), fewGuards()...) {
		for frame := range 12 {
			for kind := 2; kind <= 3; kind++ {
				rights := all[(i*12+frame)*7%len(all)]
				checkOk(t, evenMemory(0), list, frame, kind, rights, true)
				checkOk(t, with(evenMemory(9999), frame, 0, 0, 0, 0), list, frame, kind, nil, true)
			}
		}
	}
}

// P52, P62: a frame that names itself, at each place, alone and among good words, by both entries: also if its own kind is the one that is needed.
func TestTablesThatNameThemselves(t *testing.T) {
	for frame := range 12 {
		for at := range 4 {
			for kind := 2; kind <= 3; kind++ {
				for _, own := range []int{readEntries[frame], writeEntries[frame]} {
					good := writeEntries[(frame+5)%12]
					list := slices.Repeat([]impl.Info{info(kind-1, "a", 0)}, 12)
					for _, m := range [][][]int{evenMemory(0), framesMemory(frame, good, good, good, good), framesMemory(frame, 0, good, good, 0)} {
						checkOk(t, m, list, frame, kind, []string{"a"}, true)
						checkOk(t, withWord(m, frame, at, own), list, frame, kind, []string{"a"}, false)
						checkOk(t, withWord(m, frame, at, own), list, frame, kind, []string{""}, false)
						checkOk(t, withWord(m, frame, at, own), list, (frame+1)%12, kind, []string{"a"}, true)
					}
					checkOk(t, evenMemory(own), list, frame, kind, []string{"a"}, false)
					checkOk(t, evenMemory(own), list, (frame+1)%12, kind, []string{"a"}, true)
				}
			}
		}
	}
}

// P62: any frame whose first word becomes an entry of itself.
func TestTablesWithTheirOwnEntryFirst(t *testing.T) {
	lists := append(someLists(), fewGuards()...)
	for i, m := range tableMemories() {
		for frame := range 12 {
			for j, own := range []int{readEntries[frame], writeEntries[frame]} {
				list := lists[(i*29+frame*2+j)%len(lists)]
				for kind := 2; kind <= 3; kind++ {
					checkOk(t, withWord(m, frame, 0, own), list, frame, kind, []string{""}, false)
				}
			}
		}
	}
}

// P55: words of tables of both kinds that are written out; those of frames with data and of free frames do not count.
func TestWrittenCounts(t *testing.T) {
	m := evenMemory(0)
	checkCount(t, m, tableInfos(), 0, 0, 0, 0, 0, 0, 0, 0, 0, 0, 0, 0)
	m[4] = []int{5, 7, 0, 9}
	checkCount(t, m, tableInfos(), 0, 2, 1, 0, 0, 0, 0, 0, 0, 0, 0, 0)
	m[9] = []int{17, 0, 21, 7}
	checkCount(t, m, tableInfos(), 0, 3, 1, 0, 1, 1, 0, 0, 0, 0, 0, 0)
	m[0], m[7] = []int{5, 5, 5, 5}, []int{9, 17, 1, 3}
	checkCount(t, m, tableInfos(), 0, 3, 1, 0, 1, 1, 0, 0, 0, 0, 0, 0)
	m[10] = []int{41, 43, 2, 9999}
	checkCount(t, m, tableInfos(), 0, 3, 1, 0, 1, 1, 0, 0, 0, 0, 2, 0)
	m[11] = []int{1, 29, 47, 49}
	checkCount(t, m, tableInfos(), 1, 3, 1, 0, 1, 1, 0, 1, 0, 0, 2, 1)
	checkCount(t, m, freeInfos(), 0, 0, 0, 0, 0, 0, 0, 0, 0, 0, 0, 0)
	checkCount(t, m, dataInfos(), 0, 0, 0, 0, 0, 0, 0, 0, 0, 0, 0, 0)
	checkCount(t, evenMemory(1), slices.Repeat([]impl.Info{info(3, "", 0)}, 12), 48, 0, 0, 0, 0, 0, 0, 0, 0, 0, 0, 0)
	checkCount(t, evenMemory(47), slices.Repeat([]impl.Info{info(2, "a", 50)}, 12), 0, 0, 0, 0, 0, 0, 0, 0, 0, 0, 0, 48)
	checkCount(t, selfMemory(), slices.Repeat([]impl.Info{info(2, "a", 50)}, 12), 4, 4, 4, 4, 4, 4, 4, 4, 4, 4, 4, 4)
	checkCount(t, chainMemory(), slices.Repeat([]impl.Info{info(3, "c", 1)}, 12), 4, 4, 4, 4, 4, 4, 4, 4, 4, 4, 4, 4)
}

// P55: one word of one frame: each frame that is named at each place, for each kind that the frame and the named one can have.
func TestCountsOfOneWord(t *testing.T) {
	for frame := range 12 {
		for other := range 12 {
			for kind := range 4 {
				for of := range 4 {
					for i, word := range []int{readEntries[other], writeEntries[other]} {
						list := withInfo(freeInfos(), other, frameOf(of, "c", 9))
						list[frame] = frameOf(kind, "ab", 50)
						want := make([]int, 12)
						if kind >= 2 {
							want[other] = 1
						}
						checkCount(t, withWord(evenMemory(0), frame, (frame+other+i)%4, word), list, want...)
					}
				}
			}
		}
	}
}

// P55: many memories and lists, with tables that name themselves, each other, free frames and data; and each word that there is.
func TestCountsOfManyLists(t *testing.T) {
	lists := append(someLists(), fewGuards()...)
	for _, m := range tableMemories() {
		for _, list := range lists {
			checkCount(t, m, list, countsOf(m, list)...)
		}
	}
	for word := range 10000 {
		list := turnedList(tableInfos(), word%12)
		m := withWord(evenMemory(0), word*7%12, word%4, word)
		checkCount(t, m, list, countsOf(m, list)...)
	}
}
