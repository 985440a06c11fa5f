package tests

import (
	"slices"
	"testing"

	"loop.example/exopager/impl"
)

// P46, P47, P49, P50: lists of each kind of fault: no frame is free, taken or given, whatever frame and right are named.
func TestInvalidInfos(t *testing.T) {
	for _, x := range invalidInfos() {
		checkInvalidInfos(t, x.name, x.list, []string{"", "b", "cccc"}, allFrames())
	}
}

// P46, P47: an invalid list together with a frame or a right that is invalid, too.
func TestInvalidInfosWithInvalidArguments(t *testing.T) {
	guards := append(someBadTexts(), "a")
	frames := []int{-1, 12, 13, 255, 256, -12, 1 << 32, -1 << 63, 1<<63 - 1}
	for i, x := range invalidInfos() {
		if i%7 == 0 || len(x.list) != 12 {
			checkInvalidInfos(t, x.name, x.list, guards, frames)
		}
	}
}

// P50: every text that is no right, for a frame of each kind. A free frame has none of them either.
func TestInfosWithNoRight(t *testing.T) {
	for i, bad := range badTexts() {
		for kind := range 4 {
			checkInfos(t, withInfo(dataInfos(), i%12, info(kind, bad, 0)), false)
			checkInfos(t, withInfo(freeInfos(), (i+kind)%12, info(kind, bad, 50)), false)
		}
	}
}

// P49, P50: kinds and uses that are far out of range.
func TestInfosWithFarNumbers(t *testing.T) {
	for i, n := range noneOf(4) {
		list := withInfo(dataInfos(), i%12, info(n, "", 0))
		checkInfos(t, list, false)
		checkFree(t, list, -1)
	}
	for i, n := range noneOf(51) {
		for kind := range 4 {
			list := withInfo(freeInfos(), i%12, info(kind, "", n))
			checkInfos(t, list, false)
			checkFree(t, list, -1)
		}
	}
}

// P46: every text that is no right, whether a frame is free or not.
func TestTakeUnderNoRight(t *testing.T) {
	for _, bad := range badTexts() {
		checkNotTaken(t, freeInfos(), bad)
		checkNotTaken(t, dataInfos(), bad)
		checkNotTaken(t, withFree(dataInfos(), 11), bad)
	}
	for _, list := range append(writtenInfos(), infosOfSets()...) {
		checkNotTaken(t, list, "d")
		checkNotTaken(t, list, "aaaaa")
		checkNotTaken(t, list, "a\x00")
	}
}

// P47: frames that do not exist, next to the first and the last one and far away.
func TestGiveOfNoFrame(t *testing.T) {
	for _, frame := range noneOf(12) {
		checkNotGiven(t, dataInfos(), frame)
		checkNotGiven(t, slices.Repeat([]impl.Info{info(1, "", 0)}, 12), frame)
	}
	for _, list := range append(writtenInfos(), infosOfSets()...) {
		checkNotGiven(t, list, -1)
		checkNotGiven(t, list, 12)
	}
}

// P46, P47, P50: lists that the call itself would mend: the fault is in the frame that would be taken or given, or comes or goes with it.
func TestInfosThatWouldBeMended(t *testing.T) {
	for frame := range 12 {
		for _, x := range []impl.Info{info(0, "a", 0), info(0, "", 1), info(0, "d", 0), info(0, "", -1), info(0, "", 51)} {
			list := withInfo(dataInfos(), frame, x)
			checkNotTaken(t, list, "a")
			checkNotGiven(t, list, frame)
			checkFree(t, list, -1)
		}
		for _, x := range []impl.Info{info(1, "d", 0), info(1, "aaaaa", 0), info(1, "", -1), info(1, "", 51), info(4, "", 0), info(-1, "", 0)} {
			for _, start := range [][]impl.Info{freeInfos(), dataInfos()} {
				list := withInfo(start, frame, x)
				checkNotGiven(t, list, frame)
				checkNotTaken(t, list, "a")
				checkFree(t, list, -1)
			}
		}
	}
}

// P46, P49, P50: lists of 11 and 13 frames, valid but for their lengths, and of 12 of the same frames.
func TestInfosOfOtherLengths(t *testing.T) {
	for many := range 40 {
		for _, x := range []impl.Info{{}, info(1, "a", 0), info(2, "bb", 3), info(3, "", 50)} {
			list := slices.Repeat([]impl.Info{x}, many)
			if many == 12 {
				checkInfos(t, list, true)
				continue
			}
			checkInvalidInfos(t, "another length", list, []string{"", "a"}, []int{-1, 0, 1, many - 2, many - 1, many, 11, 12})
		}
	}
}
