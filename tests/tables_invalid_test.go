package tests

import (
	"slices"
	"testing"

	"loop.example/exopager/impl"
)

// readyInfos has a frame at each place that can be pinned, or unpinned, if its words are 0: data, a lower table and an upper one in turn.
func readyInfos() []impl.Info {
	list := []impl.Info{}
	for frame := range 12 {
		list = append(list, info(frame%3+1, "a", 0))
	}
	return list
}

// P52 to P61: what is ready can be pinned and unpinned, so that only what the tests below make invalid is the reason of what they find.
func TestWhatIsReady(t *testing.T) {
	m, list := evenMemory(0), readyInfos()
	for frame, x := range list {
		for kind := 2; kind <= 3; kind++ {
			checkOk(t, m, list, frame, kind, nil, true)
			if x.Kind == 1 {
				checkPin(t, m, list, frame, kind, nil, withInfo(list, frame, info(kind, "a", 0)), 0)
			} else {
				checkUnpin(t, m, list, frame, withInfo(list, frame, info(1, "a", 0)), 0)
			}
		}
	}
}

// P52, P55, P58, P61: invalid memories of each kind, with each list; what is wrong may lie in a frame that is not asked for.
func TestTablesInInvalidMemories(t *testing.T) {
	for _, x := range invalidMemories() {
		checkNoTables(t, x.name, x.m, readyInfos())
		checkNoTables(t, x.name, x.m, freeInfos())
		checkNoTables(t, x.name, x.m, slices.Repeat([]impl.Info{info(1, "", 0)}, 12))
	}
}

// P52, P55, P58, P61: one word that is out of range at each place of a memory of zeros: in the frame that is asked for, and in each other one.
func TestTablesWithAWordOutOfRange(t *testing.T) {
	for frame := range 12 {
		for at := range 4 {
			for _, word := range badWords() {
				m := withWord(evenMemory(0), frame, at, word)
				checkNoTables(t, "a word out of range", m, readyInfos())
				checkUnpin(t, m, slices.Repeat([]impl.Info{info(2, "", 0)}, 12), frame, nil, 3)
				checkNoTable(t, m, dataInfos(), frame, 2, []string{""})
				checkNoTable(t, m, dataInfos(), (frame+1)%12, 3, []string{""})
			}
		}
	}
}

// P52, P55, P58, P61: invalid lists of each kind, with frames of zeros and with others.
func TestTablesOfInvalidLists(t *testing.T) {
	for i, x := range invalidInfos() {
		m := evenMemory(0)
		if i%5 == 0 {
			m = evenMemory(entriesOf[i%24])
		}
		checkCount(t, m, x.list)
		frame, kind := i%12, 2+i%2
		checkNoTable(t, m, x.list, frame, kind, nil)
		checkNoTable(t, m, x.list, frame, 5-kind, []string{""})
		checkUnpin(t, m, x.list, frame, nil, 3)
		if i%40 == 0 || len(x.list) != 12 {
			checkNoTables(t, x.name, m, x.list)
		}
	}
}

// P52, P55, P58, P61: one bad frame among those that are ready: the one that is asked for, one that its words name, and any other one.
func TestTablesWithABadFrame(t *testing.T) {
	for i, bad := range badInfos() {
		for frame := range 12 {
			other := (frame + i%12) % 12
			m := framesMemory(frame, 0, writeEntries[other], 0, 0)
			for _, start := range [][]impl.Info{readyInfos(), dataInfos(), slices.Repeat([]impl.Info{info(2, "a", 0)}, 12)} {
				list := withInfo(start, other, bad)
				checkCount(t, m, list)
				checkUnpin(t, m, list, frame, nil, 3)
				checkNoTable(t, m, list, frame, 2+i%2, []string{""})
			}
		}
	}
}

// P52, P58: invalid rights of each kind, for a frame of zeros, which needs no rights, and for one with a word that valid rights would allow.
func TestTablesUnderInvalidRights(t *testing.T) {
	for i, x := range invalidRights() {
		frame, kind := i%12, 2+i%2
		list := withInfo(slices.Repeat([]impl.Info{info(kind-1, "a", 0)}, 12), frame, info(1, "a", 0))
		checkNoTable(t, evenMemory(0), list, frame, kind, x.list)
		checkNoTable(t, framesMemory(frame, readEntries[(frame+1)%12], 0, 0, 0), list, frame, kind, x.list)
		checkNoTable(t, evenMemory(0), freeInfos(), frame, 5-kind, x.list)
		checkNoTable(t, evenMemory(9999), tableInfos(), (frame+1)%12, kind, x.list)
	}
	for i, bad := range badTexts() {
		checkNoTable(t, evenMemory(0), dataInfos(), i%12, 2+i%2, []string{bad})
		checkNoTable(t, evenMemory(0), dataInfos(), i%12, 2+i%2, []string{"", bad})
	}
}

// P52, P58, P61: frames that do not exist, next to the first and the last one and far away.
func TestTablesOfNoFrame(t *testing.T) {
	for _, frame := range noneOf(12) {
		for _, m := range [][][]int{evenMemory(0), evenMemory(5)} {
			for _, list := range [][]impl.Info{dataInfos(), freeInfos(), slices.Repeat([]impl.Info{info(3, "", 0)}, 12)} {
				checkUnpin(t, m, list, frame, nil, 3)
				checkNoTable(t, m, list, frame, 2, []string{""})
				checkNoTable(t, m, list, frame, 3, nil)
			}
		}
	}
	m, list := evenMemory(0), dataInfos()
	for _, frame := range []int{0, 11} {
		checkOk(t, m, list, frame, 2, nil, true)
		checkPin(t, m, list, frame, 3, nil, withInfo(list, frame, info(3, list[frame].Guard, 0)), 0)
		checkUnpin(t, m, withInfo(list, frame, info(3, "b", 0)), frame, withInfo(list, frame, info(1, "b", 0)), 0)
	}
}

// P53, P58: kinds that are not those of tables, and of these just the other ones.
func TestPinsOfOtherKinds(t *testing.T) {
	for kind := -2; kind <= 6; kind++ {
		for frame, x := range readyInfos() {
			if kind != 2 && kind != 3 {
				checkNoTable(t, evenMemory(0), readyInfos(), frame, kind, []string{""})
				continue
			}
			want, code := readyInfos(), 1
			if x.Kind == 1 {
				want, code = withInfo(want, frame, info(kind, "a", 0)), 0
			}
			checkOk(t, evenMemory(0), readyInfos(), frame, kind, []string{""}, true)
			checkPin(t, evenMemory(0), readyInfos(), frame, kind, []string{""}, want, code)
		}
	}
	for i, kind := range slices.Concat(badKinds(), noneOf(4)) {
		checkNoTable(t, evenMemory(0), dataInfos(), i%12, kind, []string{""})
		checkNoTable(t, evenMemory(9999), freeInfos(), i%12, kind, nil)
	}
}

// P52, P55, P58, P61: each of the five arguments invalid, alone and together with any others. Where none is, the frame is busy, bad or done.
func TestTablesWithInvalidArgumentsTogether(t *testing.T) {
	memories := [][][]int{evenMemory(0), evenMemory(10000), nil, evenMemory(0)[:11]}
	lists := [][]impl.Info{dataInfos(), withInfo(dataInfos(), 7, info(0, "a", 0)), {}, append(dataInfos(), impl.Info{})}
	frames := []int{3, -1, 12}
	kinds := []int{2, 1, 0, 4, -1}
	rights := [][]string{{"a"}, {"b", "a"}, {"d"}, {"a", "a"}}
	for i, m := range memories {
		for j, list := range lists {
			for k, frame := range frames {
				if i+j+k > 0 {
					checkUnpin(t, m, list, frame, nil, 3)
				}
				if i+j > 0 {
					checkCount(t, m, list)
				}
				for n, kind := range kinds {
					for o, some := range rights {
						if i+j+k+n+o > 0 {
							checkNoTable(t, m, list, frame, kind, some)
						}
					}
				}
			}
		}
	}
}

// P58, P61: an invalid argument comes before all other conditions that do not hold.
func TestInvalidArgumentsComeFirst(t *testing.T) {
	used := slices.Repeat([]impl.Info{info(1, "a", 50)}, 12)
	for _, list := range [][]impl.Info{used, freeInfos(), slices.Repeat([]impl.Info{info(3, "", 1)}, 12), withInfo(used, 4, info(1, "a", 0))} {
		for _, m := range [][][]int{evenMemory(5), evenMemory(9999), selfMemory()} {
			checkNoTable(t, m, list, 4, 1, []string{"a"})
			checkNoTable(t, m, list, 4, 0, []string{"a"})
			checkNoTable(t, m, list, 4, 4, []string{"a"})
			checkNoTable(t, m, list, 12, 2, []string{"a"})
			checkNoTable(t, m, list, -1, 3, []string{"a"})
			checkNoTable(t, m, list, 4, 2, []string{"A"})
			checkNoTable(t, withWord(m, 9, 2, -1), list, 4, 2, []string{"a"})
			checkNoTable(t, m, withInfo(list, 9, info(2, "", 51)), 4, 2, []string{"a"})
			checkUnpin(t, m, list, 12, nil, 3)
			checkUnpin(t, m, list, -1, nil, 3)
			checkUnpin(t, withWord(m, 9, 2, 10000), list, 4, nil, 3)
			checkUnpin(t, m, withInfo(list, 9, info(0, "", 1)), 4, nil, 3)
		}
	}
}

// P52, P55, P58, P61: nil and empty arguments. Only rights may be so, as an environment may have none.
func TestTablesOfNothing(t *testing.T) {
	for _, m := range [][][]int{nil, {}, make([][]int, 12), {{}}} {
		checkNoTables(t, "no memory", m, dataInfos())
		checkNoTables(t, "no memory and no list", m, nil)
	}
	for _, list := range [][]impl.Info{nil, {}, {{}}} {
		checkNoTables(t, "no list", evenMemory(0), list)
	}
	for _, rights := range [][]string{nil, {}} {
		m, list := evenMemory(0), dataInfos()
		checkOk(t, m, list, 2, 2, rights, true)
		checkPin(t, m, list, 2, 3, rights, withInfo(list, 2, info(3, list[2].Guard, 0)), 0)
		m[2][1] = 5
		checkOk(t, m, list, 2, 2, rights, false)
		checkPin(t, m, list, 2, 2, rights, list, 2)
	}
}

// P58, P61: lists that the call itself would mend: uses that are one too many or too few for the frame that would have fewer or more.
func TestTablesThatWouldBeMended(t *testing.T) {
	for frame := range 12 {
		other := (frame + 2) % 12
		m := framesMemory(frame, readEntries[other], 0, 0, 0)
		list := withInfo(slices.Repeat([]impl.Info{info(1, "a", 5)}, 12), frame, info(2, "a", 0))
		checkUnpin(t, m, withInfo(list, other, info(1, "a", 51)), frame, nil, 3)
		checkUnpin(t, m, withInfo(list, other, info(0, "", 1)), frame, nil, 3)
		checkUnpin(t, m, withInfo(list, other, info(1, "a", 50)), frame, withInfo(withInfo(list, other, info(1, "a", 49)), frame, info(1, "a", 0)), 0)
		list[frame] = info(1, "a", 0)
		checkNoTable(t, m, withInfo(list, other, info(1, "a", -1)), frame, 2, []string{"a"})
		checkPin(t, m, withInfo(list, other, info(1, "a", 0)), frame, 2, []string{"a"}, withInfo(withInfo(list, other, info(1, "a", 1)), frame, info(2, "a", 0)), 0)
	}
}
