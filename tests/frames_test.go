package tests

import (
	"slices"
	"testing"

	"loop.example/exopager/impl"
)

func TestConstantsOfFrames(t *testing.T) {
	if impl.KindFree != 0 || impl.KindData != 1 || impl.KindLow != 2 || impl.KindTop != 3 {
		t.Errorf("the kinds are %d, %d, %d and %d", impl.KindFree, impl.KindData, impl.KindLow, impl.KindTop)
	}
	if impl.RefsMax != 50 {
		t.Errorf("a frame has %d uses", impl.RefsMax)
	}
}

// P49, P50: lists that are written out, all of them valid, and how many frames are free.
func TestWrittenInfos(t *testing.T) {
	free := []int{12, 0, 0, 0, 0, 0, 1, 1, 2, 3, 6, 11, 11, 11, 10}
	for i, list := range writtenInfos() {
		checkInfos(t, list, true)
		checkFree(t, list, free[i])
	}
	checkInfos(t, make([]impl.Info, 12, 40), true)
	checkFree(t, make([]impl.Info, 12, 40), 12)
	checkInfos(t, make([]impl.Info, 30)[9:21], true)
}

// P50: all that can be known of a frame, at a place among free frames, and among used ones.
func TestEachInfo(t *testing.T) {
	all := eachInfo()
	if len(all) != 18514 {
		t.Fatalf("%d are known", len(all))
	}
	for i, x := range all {
		checkInfos(t, slices.Repeat([]impl.Info{x}, 12), true)
		checkInfos(t, withInfo(freeInfos(), i%12, x), true)
		checkInfos(t, withInfo(usedInfos(i), (i+5)%12, x), true)
	}
}

// P50: each kind, the rights of some lengths, and uses, at the bounds and beside them: only what is in range is valid.
func TestInfosAtTheBounds(t *testing.T) {
	for kind := -2; kind <= 6; kind++ {
		for _, guard := range []string{"", "a", "c", "abc", "cccc", "d", "ccccc", "A"} {
			_, right := rankOf[guard]
			for refs := -2; refs <= 53; refs++ {
				want := kind >= 1 && kind <= 3 && right && refs >= 0 && refs <= 50
				if kind == 0 {
					want = guard == "" && refs == 0
				}
				for _, frame := range []int{0, 5, 11} {
					checkInfos(t, withInfo(dataInfos(), frame, info(kind, guard, refs)), want)
				}
			}
		}
	}
}

// P49: every set of free frames.
func TestFreeFramesOfAllSets(t *testing.T) {
	for n, list := range infosOfSets() {
		many := len(framesOfNumber(n))
		checkFree(t, list, many)
		checkFree(t, withFree(dataInfos(), framesOfNumber(n)...), many)
		checkInfos(t, list, true)
	}
}

// P49: a frame of each kind, used or not, is not free.
func TestFramesThatAreNotFree(t *testing.T) {
	for i, x := range eachInfo()[1:] {
		checkFree(t, withInfo(freeInfos(), i%12, x), 11)
		checkFree(t, slices.Repeat([]impl.Info{x}, 12), 0)
	}
}

// P45: the first frame, one in the middle and the last one are taken, and only the first free one if there are more.
func TestWrittenTakes(t *testing.T) {
	checkTaken(t, freeInfos(), "a", 0)
	checkTaken(t, freeInfos(), "", 0)
	checkTaken(t, withFree(dataInfos(), 0), "cccc", 0)
	checkTaken(t, withFree(dataInfos(), 11), "b", 11)
	checkTaken(t, withFree(usedInfos(1), 5), "", 5)
	checkTaken(t, withFree(usedInfos(1), 7, 4, 9), "ab", 4)
	checkTaken(t, withFree(usedInfos(2), 10, 11), "abca", 10)
	checkTaken(t, withInfo(freeInfos(), 0, info(3, "c", 50)), "c", 1)
	checkTaken(t, withInfo(freeInfos(), 11, info(2, "", 0)), "bb", 0)
}

// P45, P46: every set of free frames, with different rights, and no frame if none is free.
func TestTakeFromAllSets(t *testing.T) {
	for n, list := range infosOfSets() {
		for _, guard := range []string{"", eachRight[n%121], "cccc"} {
			if n == 0 {
				checkNotTaken(t, list, guard)
				continue
			}
			checkTaken(t, list, guard, framesOfNumber(n)[0])
		}
	}
}

// P45, P46: each right.
func TestTakeUnderEachRight(t *testing.T) {
	for _, guard := range eachRight {
		for frame := range 12 {
			checkTaken(t, withFree(dataInfos(), frame), guard, frame)
			checkTaken(t, withFree(usedInfos(frame), frame, 11), guard, frame)
		}
		for number := range 20 {
			checkNotTaken(t, usedInfos(number), guard)
		}
		checkNotTaken(t, dataInfos(), guard)
		checkNotTaken(t, slices.Repeat([]impl.Info{info(1, guard, 0)}, 12), guard)
	}
}

// P46: InfosTake succeeds just if a frame is free; a frame with data that nothing uses is not free.
func TestTakeSucceedsIfAFrameIsFree(t *testing.T) {
	for i, x := range eachInfo() {
		list := withInfo(dataInfos(), i%12, x)
		if i == 0 {
			checkTaken(t, list, "a", 0)
			continue
		}
		checkNotTaken(t, list, x.Guard)
	}
}

// P47: a frame at the beginning, in the middle and at the end, alone and among others.
func TestWrittenGives(t *testing.T) {
	for frame := range 12 {
		checkGiven(t, dataInfos(), frame)
		checkGiven(t, withInfo(freeInfos(), frame, info(1, "", 0)), frame)
		checkGiven(t, withInfo(freeInfos(), frame, info(1, "cab", 0)), frame)
		checkGiven(t, withInfo(usedInfos(frame), frame, info(1, "cccc", 0)), frame)
		checkNotGiven(t, freeInfos(), frame)
		checkNotGiven(t, withFree(dataInfos(), frame), frame)
	}
}

// P47: every frame of each kind and with all uses: only data that nothing uses is given, whatever its right is.
func TestGiveOfFramesThatAreUsed(t *testing.T) {
	for i, x := range eachInfo() {
		frame := i % 12
		for _, start := range [][]impl.Info{freeInfos(), dataInfos(), usedInfos(i)} {
			list := withInfo(start, frame, x)
			if x.Kind == 1 && x.Refs == 0 {
				checkGiven(t, list, frame)
				continue
			}
			checkNotGiven(t, list, frame)
		}
	}
}

// P47: each frame of each kind, while it is not used, is used once, and is used as often as may be.
func TestGiveAtEachPlace(t *testing.T) {
	for frame := range 12 {
		for kind := 1; kind <= 3; kind++ {
			for _, refs := range []int{0, 1, 2, 49, 50} {
				list := withInfo(dataInfos(), frame, info(kind, "b", refs))
				if kind == 1 && refs == 0 {
					checkGiven(t, list, frame)
					continue
				}
				checkNotGiven(t, list, frame)
			}
		}
	}
}

// P47: every frame of lists with every set of free frames.
func TestGiveToAllSets(t *testing.T) {
	given := 0
	for _, list := range infosOfSets() {
		for frame, x := range list {
			if x.Kind == 1 && x.Refs == 0 {
				checkGiven(t, list, frame)
				given++
				continue
			}
			checkNotGiven(t, list, frame)
		}
	}
	if given < 1000 {
		t.Errorf("a frame was given %d times", given)
	}
}

// P48: what was taken is given back, and the list is as it was.
func TestTakeThenGive(t *testing.T) {
	for n, list := range infosOfSets()[1:] {
		guard := eachRight[n*5%121]
		got, frame, _ := impl.InfosTake(list, guard)
		checkInfos(t, got, true)
		checkFree(t, got, len(framesOfNumber(n+1))-1)
		back, ok := impl.InfosGive(got, frame)
		if !slices.Equal(back, list) || !ok {
			t.Errorf("%v is %v, %t when frame %d was taken and given", list, back, ok, frame)
		}
	}
}

// P47: a frame that is given is the first one that is taken then, if no earlier one is free.
func TestGiveThenTake(t *testing.T) {
	for frame := range 12 {
		list, _ := impl.InfosGive(dataInfos(), frame)
		checkFree(t, list, 1)
		checkTaken(t, list, "bca", frame)
		for other := range 12 {
			both, ok := impl.InfosGive(list, other)
			if ok != (other != frame) {
				t.Errorf("frame %d behind frame %d is given: %t", other, frame, ok)
			}
			if ok {
				checkTaken(t, both, "", min(frame, other))
			}
		}
	}
}

// P45, P46, P49: all free frames of a list, one after another, each under a right of its own, until none is free.
func TestTakeUntilNoneIsFree(t *testing.T) {
	for n := 0; n < 4096; n += 7 {
		list := withFree(usedInfos(n), framesOfNumber(n)...)
		want := slices.Clone(list)
		for i, frame := range framesOfNumber(n) {
			guard := eachRight[(n+i)%121]
			checkFree(t, list, len(framesOfNumber(n))-i)
			checkTaken(t, list, guard, frame)
			list, _, _ = impl.InfosTake(list, guard)
			want[frame] = info(1, guard, 0)
		}
		if !slices.Equal(list, want) {
			t.Errorf("when all are taken, the list is %v, not %v", list, want)
		}
		checkFree(t, list, 0)
		checkNotTaken(t, list, "")
		checkNotTaken(t, list, "a")
	}
}

// P45, P47, P49: all frames are taken, and given again, in the same order and in others.
func TestTakeAllAndGiveAllInManyOrders(t *testing.T) {
	full := freeInfos()
	for i := range 12 {
		checkTaken(t, full, eachRight[i*10], i)
		full, _, _ = impl.InfosTake(full, eachRight[i*10])
	}
	checkNotTaken(t, full, "")
	for _, order := range orders(allFrames()) {
		list := full
		given := []int{}
		for i, frame := range order {
			checkGiven(t, list, frame)
			list, _ = impl.InfosGive(list, frame)
			given = append(given, frame)
			checkFree(t, list, i+1)
			checkTaken(t, list, "ab", slices.Min(given))
			checkNotGiven(t, list, frame)
		}
		if !slices.Equal(list, freeInfos()) {
			t.Errorf("given in the order %v, the list is %v", order, list)
		}
	}
}

// P50: a valid list without any one frame, with negative uses of one, and with one that is free.
func TestInfosWithoutOneAndWithOneThatIsFree(t *testing.T) {
	for _, list := range append(writtenInfos(), infosOfSets()...) {
		for frame, x := range list {
			checkInfos(t, slices.Delete(slices.Clone(list), frame, frame+1), false)
			checkInfos(t, withInfo(list, frame, info(x.Kind, x.Guard, -1)), false)
			checkInfos(t, withInfo(list, frame, info(x.Kind, x.Guard, -50)), false)
			checkInfos(t, withFree(list, frame), true)
		}
	}
}
