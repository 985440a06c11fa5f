package tests

import (
	"slices"
	"testing"

	"loop.example/exopager/impl"
)

// spoilList writes to all that can be reached from a list, within its capacity, too.
func spoilList(list []int) {
	for i := range list[:cap(list)] {
		list[:cap(list)][i] = -77
	}
}

// P15, P19, P20: walks leave the memory as it is, with valid arguments and with invalid ones.
func TestWalksLeaveTheMemory(t *testing.T) {
	all := spaces()
	for _, x := range invalidMemories() {
		all = append(all, x.m)
	}
	for _, m := range all {
		before := copyOf(m)
		for root := -1; root <= 12; root++ {
			for address := -1; address <= 64; address += 5 {
				impl.Walk(m, root, address)
			}
			impl.WalkTables(m, root)
			impl.WalkFrames(m, root)
		}
		if !sameMemory(m, before) {
			t.Errorf("%v is changed to %v", before, m)
		}
	}
}

// P19, P20: a list shares nothing with the memory, nor with another list of the same call.
func TestListsShareNothing(t *testing.T) {
	for root := range 12 {
		for _, start := range [][][]int{spaceMemory(), chainMemory(), selfMemory()} {
			m := copyOf(start)
			tables, frames := impl.WalkTables(m, root), impl.WalkFrames(m, root)
			moreTables, moreFrames := impl.WalkTables(m, root), impl.WalkFrames(m, root)
			wantTables, wantFrames := slices.Clone(tables), slices.Clone(frames)
			spoilList(tables)
			spoilList(frames)
			if !sameMemory(m, start) {
				t.Errorf("a change of a list changes the memory to %v", m)
			}
			spoil(m)
			if !slices.Equal(moreTables, wantTables) || !slices.Equal(moreFrames, wantFrames) {
				t.Errorf("the lists are changed to %v and %v", moreTables, moreFrames)
			}
			spoilList(moreTables)
			if !slices.Equal(moreFrames, wantFrames) {
				t.Errorf("a change of a list changes the other one to %v", moreFrames)
			}
		}
	}
}

// P15, P19, P20: frames of the memory with words behind them, which do not count and are not written to.
func TestWalksInAMemoryWithRoom(t *testing.T) {
	store := make([]int, 12*8)
	outer := make([][]int, 0, 20)
	for frame, words := range spaceMemory() {
		part := store[8*frame : 8*frame+8]
		copy(part, words)
		copy(part[4:], []int{25, 27, 33, 35})
		outer = append(outer, part[:4])
	}
	before := slices.Clone(store)
	checkListed(t, outer, 2, []int{5, 7, 11}, []int{0, 2, 3, 4, 5, 11})
	for number, want := range spacePages() {
		checkPage(t, outer, 2, number, want)
	}
	spoilList(impl.WalkTables(outer, 2))
	spoilList(impl.WalkFrames(outer, 2))
	if !slices.Equal(store, before) {
		t.Errorf("the store is changed to %v", store)
	}
}

// P15, P19, P20: all frames of the memory may be one and the same slice.
func TestWalksInFramesOfOneSlice(t *testing.T) {
	words := []int{47, 9, 0, 3}
	m := [][]int{}
	for range 12 {
		m = append(m, words)
	}
	checkPage(t, m, 4, 0, page{11, true, 0})
	checkPage(t, m, 4, 1, page{2, false, 0})
	checkPage(t, m, 4, 2, page{0, false, 2})
	checkPage(t, m, 4, 8, page{0, false, 1})
	checkListed(t, m, 4, []int{0, 2, 11}, []int{0, 2, 11})
	if !slices.Equal(words, []int{47, 9, 0, 3}) {
		t.Errorf("the frames are changed to %v", words)
	}
}

// P15, P19, P20: a call depends on nothing that earlier calls did.
func TestNoWalkIsKept(t *testing.T) {
	m := spaceMemory()
	checkPage(t, m, 2, 0, page{0, true, 0})
	m[5][0] = readEntries[8]
	checkPage(t, m, 2, 0, page{8, false, 0})
	checkListed(t, m, 2, []int{5, 7, 11}, []int{0, 2, 3, 4, 5, 8, 11})
	m[2][0] = 0
	checkPage(t, m, 2, 0, page{0, false, 1})
	checkListed(t, m, 2, []int{7, 11}, []int{0, 2, 4, 5, 11})
	checkPage(t, spaceMemory(), 2, 0, page{0, true, 0})
}
