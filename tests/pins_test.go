package tests

import (
	"slices"
	"testing"

	"loop.example/exopager/impl"
)

// P56: pins that are written out. Of tableInfos, frame 0 is pinned; the frames 1, 2, 3 and 8 have data, and 4, 5, 6 and 11 are lower tables.
func TestWrittenPins(t *testing.T) {
	list := tableInfos()
	all := []string{""}
	low := withInfo(list, 0, info(2, "a", 0))
	checkPin(t, evenMemory(0), list, 0, 2, nil, low, 0)
	checkPin(t, framesMemory(0, 5, 0, 0, 0), list, 0, 2, all, withInfo(low, 1, info(1, "ab", 4)), 0)
	checkPin(t, framesMemory(0, 0, 0, 0, 7), list, 0, 2, []string{"ab"}, withInfo(low, 1, info(1, "ab", 4)), 0)
	checkPin(t, framesMemory(0, 5, 11, 7, 5), list, 0, 2, []string{"ab", "b"}, withInfo(withInfo(low, 1, info(1, "ab", 6)), 2, info(1, "b", 1)), 0)
	checkPin(t, framesMemory(0, 13, 15, 0, 15), list, 0, 2, all, withInfo(low, 3, info(1, "", 50)), 0)
	top := withInfo(list, 0, info(3, "a", 0))
	checkPin(t, evenMemory(0), list, 0, 3, nil, top, 0)
	checkPin(t, framesMemory(0, 0, 19, 0, 0), list, 0, 3, []string{"a"}, withInfo(top, 4, info(2, "a", 2)), 0)
	checkPin(t, framesMemory(0, 21, 45, 23, 17), list, 0, 3, all, withInfo(withInfo(withInfo(top, 4, info(2, "a", 2)), 5, info(2, "bc", 2)), 11, info(2, "", 1)), 0)
	checkPin(t, framesMemory(0, 25, 0, 25, 25), list, 0, 3, []string{"cccc"}, withInfo(top, 6, info(2, "cccc", 50)), 0)
}

// P58, P59: pins that are refused, for each reason.
func TestWrittenPinsThatAreRefused(t *testing.T) {
	check := func(frame int, kind int, code int, rights []string, words ...int) {
		t.Helper()
		checkPin(t, framesMemory(frame, words...), tableInfos(), frame, kind, rights, tableInfos(), code)
	}
	all := []string{""}
	check(1, 2, 1, all, 0, 0, 0, 0)
	check(4, 2, 1, all, 0, 0, 0, 0)
	check(5, 3, 1, all, 0, 0, 0, 0)
	check(7, 2, 1, all, 0, 0, 0, 0)
	check(9, 3, 1, all, 0, 0, 0, 0)
	check(11, 2, 1, all, 0, 0, 0, 0)
	check(0, 2, 2, []string{"b"}, 5, 0, 0, 0)
	check(0, 2, 2, nil, 0, 0, 0, 11)
	check(0, 2, 2, all, 17, 0, 0, 0)
	check(0, 2, 2, all, 5, 5, 29, 5)
	check(0, 2, 2, all, 5, 37, 5, 5)
	check(0, 2, 2, all, 0, 4, 0, 0)
	check(0, 2, 2, all, 0, 0, 1, 0)
	check(0, 3, 2, all, 0, 0, 3, 0)
	check(0, 3, 2, all, 5, 0, 0, 0)
	check(0, 3, 2, all, 39, 17, 0, 0)
	check(0, 3, 2, []string{"a"}, 17, 21, 0, 0)
	check(0, 2, 1, all, 33, 0, 0, 0)
	check(0, 2, 1, all, 5, 9, 0, 35)
	check(0, 2, 1, all, 13, 13, 13, 13)
	check(0, 3, 1, all, 25, 27, 25, 27)
	check(3, 3, 1, all, 17, 0, 0, 0)
	check(2, 3, 2, all, 9999, 0, 0, 0)
	check(2, 2, 2, []string{"a"}, 33, 35, 4, 0)
}

// P56 to P60: all lists of four words of each kind, for both kinds of tables and many rights.
func TestPinsOfAllWordsOfEachKind(t *testing.T) {
	codes := [4]int{}
	for i, words := range fourOf(wordsOfEachKind()) {
		by := i % 12
		m, list := turned(framesMemory(0, words...), by), turnedList(tableInfos(), by)
		for _, rights := range tableRights() {
			for kind := 2; kind <= 3; kind++ {
				codes[checkPinAndBack(t, m, list, by, kind, rights)]++
			}
		}
	}
	if codes[0] < 500 || codes[1] < 5 || codes[2] < 10000 || codes[3] != 0 {
		t.Errorf("the codes were %v", codes)
	}
}

// P56 to P60: many memories and lists, each frame.
func TestPinsOfManyLists(t *testing.T) {
	codes := [4]int{}
	lists := append(fewGuards(), someLists()...)
	for i, m := range tableMemories() {
		for j := range 60 {
			list := lists[(i*60+j)%len(lists)]
			for frame := range 12 {
				for kind := 2; kind <= 3; kind++ {
					codes[checkPinAndBack(t, m, list, frame, kind, [][]string{{""}, {"a"}, {"ab"}}[(i+j)%3])]++
				}
			}
		}
	}
	if codes[0] < 1000 || codes[1] < 10000 || codes[2] < 1000 || codes[3] != 0 {
		t.Errorf("the codes were %v", codes)
	}
}

// checkPinAndBack checks a pin with valid arguments by all that the document promises of it, and returns its code.
func checkPinAndBack(t *testing.T, m [][]int, list []impl.Info, frame int, kind int, rights []string) int {
	t.Helper()
	want, code := pinned(m, list, frame, kind, rights)
	checkPin(t, m, list, frame, kind, rights, want, code)
	ready := list[frame].Kind == 1 && list[frame].Refs == 0
	good := impl.TableOk(m, list, frame, kind, rights)
	if (code == 2) != (ready && !good) || code == 0 && !(ready && good) {
		t.Errorf("the code is %d, though frame %d of %v is ready: %t, and good: %t", code, frame, list, ready, good)
	}
	if code == 0 {
		got, _ := impl.TablePin(m, list, frame, kind, rights)
		checkGrown(t, m, list, got)
		checkUnpin(t, m, got, frame, list, 0)
	}
	return code
}

// checkGrown expects that uses and counts have grown by the same, that all guards are there, and that the list is valid.
func checkGrown(t *testing.T, m [][]int, list []impl.Info, got []impl.Info) {
	t.Helper()
	before, after := impl.TableCount(m, list), impl.TableCount(m, got)
	for frame, x := range got {
		if x.Refs-list[frame].Refs != after[frame]-before[frame] || x.Guard != list[frame].Guard {
			t.Errorf("frame %d of %v is %v, and its count %d, not %d", frame, list, x, after[frame], before[frame])
		}
	}
	checkInfos(t, got, true)
}

// P58: each kind of the frame, and uses of it at the bounds: only data that nothing uses is pinned.
func TestPinsOfFramesThatAreUsed(t *testing.T) {
	for frame := range 12 {
		for kind := 2; kind <= 3; kind++ {
			for of := 1; of <= 3; of++ {
				for _, refs := range []int{0, 1, 2, 49, 50} {
					list := withInfo(freeInfos(), frame, info(of, "c", refs))
					code := 1
					want := list
					if of == 1 && refs == 0 {
						code, want = 0, withInfo(list, frame, info(kind, "c", 0))
					}
					checkPin(t, evenMemory(0), list, frame, kind, nil, want, code)
					checkPin(t, framesMemory((frame+1)%12, 1, 1, 2, 3), list, frame, kind, []string{"a"}, want, code)
				}
			}
			checkPin(t, evenMemory(0), freeInfos(), frame, kind, []string{""}, freeInfos(), 1)
		}
	}
}

// P58, P59: if several conditions do not hold, the first one counts: a frame that is no data or is used, then words that are not good, then uses that are too many.
func TestOrderOfRefusedPins(t *testing.T) {
	for frame := range 12 {
		for kind := 2; kind <= 3; kind++ {
			other, last := (frame+1)%12, (frame+11)%12
			full := withInfo(slices.Repeat([]impl.Info{info(kind-1, "a", 50)}, 12), last, info(4-kind, "a", 50))
			m := framesMemory(frame, writeEntries[other], 0, 0, 0)
			bad := []int{readEntries[last], readEntries[frame], 9999, 2}
			for _, x := range []impl.Info{{}, info(1, "a", 1), info(1, "a", 50), info(2, "a", 0), info(3, "a", 0), info(2, "a", 7)} {
				list := withInfo(full, frame, x)
				checkPin(t, m, list, frame, kind, []string{"a"}, list, 1)
				checkPin(t, m, list, frame, kind, nil, list, 1)
				for at, word := range bad {
					checkPin(t, withWord(m, frame, at, word), list, frame, kind, []string{"a"}, list, 1)
				}
			}
			list := withInfo(full, frame, info(1, "b", 0))
			checkPin(t, m, list, frame, kind, []string{"a"}, list, 1)
			checkPin(t, m, list, frame, kind, []string{"b"}, list, 2)
			for at, word := range bad {
				if at > 0 {
					checkPin(t, withWord(m, frame, at, word), list, frame, kind, []string{"a"}, list, 2)
				}
			}
		}
	}
}

// P56, P58: one to four words that name one frame, which is used so often that they are too many, or just not; another frame that is named in front of it or behind it is not changed either then.
func TestPinsWithManyUses(t *testing.T) {
	for frame := range 12 {
		other, third := (frame+4)%12, (frame+9)%12
		for kind := 2; kind <= 3; kind++ {
			for refs := 44; refs <= 50; refs++ {
				list := withInfo(slices.Repeat([]impl.Info{info(kind-1, "b", 3)}, 12), frame, info(1, "", 0))
				list[other] = info(kind-1, "b", refs)
				for _, words := range fourOf([]int{0, readEntries[other], writeEntries[other], readEntries[third]}) {
					m := framesMemory(frame, words...)
					many, more := namesOf(words, other), namesOf(words, third)
					if refs+many > 50 {
						checkPin(t, m, list, frame, kind, []string{"b"}, list, 1)
						continue
					}
					want := withInfo(list, frame, info(kind, "", 0))
					want[other].Refs, want[third].Refs = refs+many, 3+more
					checkPin(t, m, list, frame, kind, []string{"b"}, want, 0)
				}
			}
		}
	}
}

// P59, P62: a frame that names itself at each place, alone and among good words, is not pinned, also if it would be allowed by its kind and its guard.
func TestPinsOfFramesThatNameThemselves(t *testing.T) {
	for frame := range 12 {
		for _, own := range []int{readEntries[frame], writeEntries[frame]} {
			for kind := 2; kind <= 3; kind++ {
				good := readEntries[(frame+6)%12]
				list := withInfo(slices.Repeat([]impl.Info{info(kind-1, "c", 0)}, 12), frame, info(1, "c", 0))
				for at := range 4 {
					for _, m := range [][][]int{evenMemory(0), framesMemory(frame, good, good, good, good), evenMemory(good)} {
						checkPin(t, withWord(m, frame, at, own), list, frame, kind, []string{"c"}, list, 2)
						checkPin(t, withWord(m, frame, at, own), list, frame, kind, []string{""}, list, 2)
					}
				}
				checkPin(t, framesMemory(frame, own, own, own, own), list, frame, kind, []string{""}, list, 2)
			}
		}
	}
}

// P61: what is unpinned, written out. Words are not checked, but for the uses of what they name.
func TestWrittenUnpins(t *testing.T) {
	list := tableInfos()
	data := withInfo(list, 11, info(1, "", 0))
	checkUnpin(t, evenMemory(0), list, 11, data, 0)
	checkUnpin(t, framesMemory(11, 0, 5, 0, 0), list, 11, withInfo(data, 1, info(1, "ab", 2)), 0)
	checkUnpin(t, framesMemory(11, 7, 5, 0, 5), list, 11, withInfo(data, 1, info(1, "ab", 0)), 0)
	checkUnpin(t, framesMemory(11, 7, 5, 5, 5), list, 11, list, 2)
	checkUnpin(t, framesMemory(11, 17, 2, 9999, 33), list, 11, withInfo(withInfo(data, 4, info(2, "a", 0)), 8, info(1, "abca", 49)), 0)
	checkUnpin(t, framesMemory(11, 41, 43, 41, 43), list, 11, withInfo(data, 10, info(3, "a", 3)), 0)
	checkUnpin(t, framesMemory(11, 45, 0, 0, 0), list, 11, list, 2)
	checkUnpin(t, framesMemory(11, 0, 0, 0, 31), list, 11, list, 2)
	checkUnpin(t, framesMemory(11, 0, 9, 0, 0), list, 11, list, 2)
	checkUnpin(t, framesMemory(11, 5, 0, 0, 9), list, 11, list, 2)
	checkUnpin(t, evenMemory(0), list, 9, withInfo(list, 9, info(1, "b", 0)), 0)
	checkUnpin(t, framesMemory(9, 17, 0, 0, 0), list, 9, withInfo(withInfo(list, 9, info(1, "b", 0)), 4, info(2, "a", 0)), 0)
	checkUnpin(t, framesMemory(9, 17, 0, 0, 19), list, 9, list, 2)
	checkUnpin(t, evenMemory(5), list, 9, list, 2)
	for _, frame := range []int{0, 1, 2, 3, 4, 6, 7, 8, 10} {
		checkUnpin(t, evenMemory(0), list, frame, list, 1)
		checkUnpin(t, evenMemory(5), list, frame, list, 1)
	}
}

// P61: many memories and lists, each frame.
func TestUnpinsOfManyLists(t *testing.T) {
	codes := [4]int{}
	lists := append(fewGuards(), someLists()...)
	for i, m := range tableMemories() {
		for j := range 60 {
			list := lists[(i*60+j)%len(lists)]
			for frame, x := range list {
				want, code := unpinned(m, list, frame)
				checkUnpin(t, m, list, frame, want, code)
				if (code == 1) != (x.Kind != 2 && x.Kind != 3 || x.Refs != 0) {
					t.Errorf("frame %d of %v is %v, and the code %d", frame, list, x, code)
				}
				codes[code]++
			}
		}
	}
	if codes[0] < 1000 || codes[1] < 10000 || codes[2] < 1000 || codes[3] != 0 {
		t.Errorf("the codes were %v", codes)
	}
}

// P61: each kind of the frame, and uses of it at the bounds: only tables that nothing uses are unpinned.
func TestUnpinsOfFramesThatAreUsed(t *testing.T) {
	for frame := range 12 {
		for of := 1; of <= 3; of++ {
			for _, refs := range []int{0, 1, 2, 49, 50} {
				list := withInfo(freeInfos(), frame, info(of, "bb", refs))
				if of != 1 && refs == 0 {
					checkUnpin(t, evenMemory(0), list, frame, withInfo(list, frame, info(1, "bb", 0)), 0)
					continue
				}
				checkUnpin(t, evenMemory(0), list, frame, list, 1)
				checkUnpin(t, evenMemory(9999), list, frame, list, 1)
				checkUnpin(t, evenMemory(readEntries[frame]), list, frame, list, 1)
				checkUnpin(t, evenMemory(writeEntries[(frame+1)%12]), list, frame, list, 1)
			}
		}
		checkUnpin(t, evenMemory(0), freeInfos(), frame, freeInfos(), 1)
		checkUnpin(t, evenMemory(5), freeInfos(), frame, freeInfos(), 1)
	}
}

// P61: one to four words that name a frame with as many uses, more or fewer, of each kind. A free frame has none, and is not changed to have fewer.
func TestUnpinsWithFewUses(t *testing.T) {
	for frame := range 12 {
		other, third := (frame+5)%12, (frame+8)%12
		for _, kind := range []int{2, 3} {
			for of := range 4 {
				for refs := range 6 {
					if of == 0 && refs > 0 {
						continue
					}
					list := withInfo(slices.Repeat([]impl.Info{info(1, "a", 4)}, 12), frame, info(kind, "c", 0))
					list[other] = frameOf(of, "ab", refs)
					for _, words := range fourOf([]int{2, readEntries[other], writeEntries[other], writeEntries[third]}) {
						m := framesMemory(frame, words...)
						many, more := namesOf(words, other), namesOf(words, third)
						if many > refs {
							checkUnpin(t, m, list, frame, list, 2)
							continue
						}
						want := withInfo(list, frame, info(1, "c", 0))
						want[other].Refs, want[third].Refs = refs-many, 4-more
						checkUnpin(t, m, list, frame, want, 0)
					}
				}
			}
		}
	}
}

// P61: a table that names itself at each place is used by itself, which its uses, of which there are none, do not tell.
func TestUnpinsOfTablesThatNameThemselves(t *testing.T) {
	for frame := range 12 {
		for _, own := range []int{readEntries[frame], writeEntries[frame]} {
			for _, kind := range []int{2, 3} {
				list := withInfo(slices.Repeat([]impl.Info{info(kind-1, "", 50)}, 12), frame, info(kind, "", 0))
				for at := range 4 {
					checkUnpin(t, withWord(evenMemory(0), frame, at, own), list, frame, list, 2)
					checkUnpin(t, withWord(evenMemory(readEntries[(frame+3)%12]), frame, at, own), list, frame, list, 2)
					used := withInfo(list, frame, info(kind, "", 1))
					checkUnpin(t, withWord(evenMemory(0), frame, at, own), used, frame, used, 1)
				}
				checkUnpin(t, selfMemory(), list, frame, list, 2)
			}
		}
	}
}

// spaceToPin has data in the frames 3 to 7, lower tables in 1 and 2, and an upper table in 0, of which nothing is pinned; and lists of them as one after the other is.
func spaceToPin() ([][]int, [][]impl.Info) {
	m := evenMemory(0)
	m[0] = []int{7, 0, 9, 5}
	m[1] = []int{13, 19, 15, 0}
	m[2] = []int{0, 13, 0, 31}
	m[3] = []int{1, 2, 3, 9999}
	start := freeInfos()
	for frame, guard := range []string{"", "a", "ab", "abc", "b", "b", "c", "bc"} {
		start[frame] = info(1, guard, 0)
	}
	first := withInfo(withInfo(withInfo(start, 1, info(2, "a", 0)), 3, info(1, "abc", 2)), 4, info(1, "b", 1))
	second := withInfo(withInfo(withInfo(first, 2, info(2, "ab", 0)), 3, info(1, "abc", 3)), 7, info(1, "bc", 1))
	third := withInfo(withInfo(withInfo(second, 0, info(3, "", 0)), 1, info(2, "a", 2)), 2, info(2, "ab", 1))
	return m, [][]impl.Info{start, first, second, third}
}

// P56, P58 to P61: data, then lower tables, then an upper table, for each place of the frames. What is used by then is not changed any more.
func TestPinsOneAfterAnother(t *testing.T) {
	for by := range 12 {
		m, lists := spaceToPin()
		m = turned(m, by)
		for i := range lists {
			lists[i] = turnedList(lists[i], by)
		}
		start, first, second, third := lists[0], lists[1], lists[2], lists[3]
		top, one, two, data := by, (by+1)%12, (by+2)%12, (by+3)%12
		rights := []string{"a", "b", "bc"}
		checkCount(t, m, start, make([]int, 12)...)
		checkPin(t, m, start, top, 3, rights, start, 2)
		checkPin(t, m, start, top, 2, rights, withInfo(withInfo(withInfo(start, top, info(2, "", 0)), one, info(1, "a", 2)), two, info(1, "ab", 1)), 0)
		checkPin(t, m, start, one, 3, rights, start, 2)
		checkPin(t, m, start, one, 2, []string{"a"}, start, 2)
		checkPin(t, m, start, one, 2, rights, first, 0)
		checkPin(t, m, first, one, 2, rights, first, 1)
		checkPin(t, m, first, data, 2, rights, first, 1)
		checkPin(t, m, first, top, 3, rights, first, 2)
		checkPin(t, m, first, two, 2, []string{"b"}, first, 2)
		checkPin(t, m, first, two, 2, []string{"abc", "bc"}, second, 0)
		checkPin(t, m, second, top, 2, rights, second, 2)
		checkPin(t, m, second, top, 3, []string{"a"}, third, 0)
		checkPin(t, m, third, top, 3, []string{"a"}, third, 1)
		checkCount(t, m, third, turnedList([]int{0, 2, 1, 3, 1, 0, 0, 1, 0, 0, 0, 0}, by)...)
		checkUnpin(t, m, third, one, third, 1)
		checkUnpin(t, m, third, two, third, 1)
		checkUnpin(t, m, third, data, third, 1)
		checkUnpin(t, m, third, top, second, 0)
		checkUnpin(t, m, second, top, second, 1)
		checkUnpin(t, m, second, two, first, 0)
		checkUnpin(t, m, first, one, start, 0)
		checkUnpin(t, m, start, one, start, 1)
	}
}

// P56, P60, P61: both lower tables pinned and unpinned in both orders, with the results of the calls themselves.
func TestPinsAndUnpinsInBothOrders(t *testing.T) {
	m, lists := spaceToPin()
	for _, tables := range [][]int{{1, 2}, {2, 1}} {
		for _, back := range [][]int{{1, 2}, {2, 1}} {
			list := lists[0]
			for _, frame := range tables {
				list = pinNow(t, m, list, frame, 2)
			}
			if !slices.Equal(list, lists[2]) {
				t.Errorf("pinned in the order %v, the list is %v", tables, list)
			}
			list = pinNow(t, m, list, 0, 3)
			for _, frame := range append([]int{0}, back...) {
				got, code := impl.TableUnpin(m, list, frame)
				if code != 0 {
					t.Errorf("frame %d of %v is not unpinned: %d", frame, list, code)
				}
				list = got
			}
			if !slices.Equal(list, lists[0]) {
				t.Errorf("unpinned in the order %v, the list is %v", back, list)
			}
		}
	}
}

func pinNow(t *testing.T, m [][]int, list []impl.Info, frame int, kind int) []impl.Info {
	t.Helper()
	got, code := impl.TablePin(m, list, frame, kind, []string{""})
	if code != 0 {
		t.Errorf("frame %d of %v is not pinned: %d", frame, list, code)
	}
	checkGrown(t, m, list, got)
	return got
}
