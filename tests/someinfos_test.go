package tests

import (
	"fmt"
	"math"
	"slices"
	"strconv"
	"strings"
	"testing"

	"loop.example/exopager/impl"
)

// The kinds are written as numbers here: 0 is a free frame, 1 has data, 2 is a lower table, and 3 an upper one.
func info(kind int, guard string, refs int) impl.Info {
	return impl.Info{Kind: kind, Guard: guard, Refs: refs}
}

// freeInfos has only free frames.
func freeInfos() []impl.Info {
	return slices.Repeat([]impl.Info{{}}, 12)
}

// usedInfo is a frame that is not free: kinds, rights and uses come by a rule, so that each comes with many of the others. One of five is not used.
func usedInfo(number int) impl.Info {
	refs := (number*29 + 7) % 51
	if number%5 == 0 {
		refs = 0
	}
	return info(number%3+1, eachRight[number*37%121], refs)
}

// usedInfos has no free frame.
func usedInfos(number int) []impl.Info {
	list := []impl.Info{}
	for i := range 12 {
		list = append(list, usedInfo(12*number+i))
	}
	return list
}

// dataInfos has only frames with data that nothing uses, of different rights.
func dataInfos() []impl.Info {
	list := []impl.Info{}
	for i := range 12 {
		list = append(list, info(1, eachRight[10*i], 0))
	}
	return list
}

// withInfo is the list with another frame at one place.
func withInfo(list []impl.Info, frame int, x impl.Info) []impl.Info {
	other := slices.Clone(list)
	other[frame] = x
	return other
}

// withFree is the list in which some frames are free.
func withFree(list []impl.Info, frames ...int) []impl.Info {
	other := slices.Clone(list)
	for _, frame := range frames {
		other[frame] = impl.Info{}
	}
	return other
}

// writtenInfos has lists with no, one, some and all frames free, at the beginning, in the middle and at the end, and frames of one kind and of all kinds.
func writtenInfos() [][]impl.Info {
	return [][]impl.Info{
		freeInfos(),
		dataInfos(),
		usedInfos(0),
		slices.Repeat([]impl.Info{info(1, "", 0)}, 12),
		slices.Repeat([]impl.Info{info(2, "cccc", 50)}, 12),
		slices.Repeat([]impl.Info{info(3, "b", 1)}, 12),
		withFree(usedInfos(1), 0),
		withFree(usedInfos(2), 11),
		withFree(usedInfos(3), 0, 11),
		withFree(usedInfos(4), 5, 6, 7),
		withFree(dataInfos(), 1, 3, 5, 7, 9, 11),
		withFree(usedInfos(5), 0, 1, 2, 3, 4, 5, 6, 7, 8, 9, 10),
		withFree(usedInfos(7), 1, 2, 3, 4, 5, 6, 7, 8, 9, 10, 11),
		withInfo(freeInfos(), 6, info(3, "abca", 50)),
		withInfo(withInfo(freeInfos(), 2, info(2, "", 0)), 3, info(1, "", 50)),
	}
}

// infosOfSets has a list for each set of frames: these are free, and the others are used in one of many ways.
func infosOfSets() [][]impl.Info {
	all := [][]impl.Info{}
	for n := range 4096 {
		all = append(all, withFree(usedInfos(n), framesOfNumber(n)...))
	}
	return all
}

// eachInfo has all that can be known of a frame.
func eachInfo() []impl.Info {
	all := []impl.Info{{}}
	for kind := 1; kind <= 3; kind++ {
		for _, guard := range eachRight {
			for refs := range 51 {
				all = append(all, info(kind, guard, refs))
			}
		}
	}
	return all
}

// badKinds and badRefs are just out of range, far out of it, or look valid if only a part of them is kept.
func badKinds() []int {
	return append(badWords(), 4, 5, -3, 255, 256, 257, 259, 65536, 65537, 1<<32+1, 1<<32+2, -1<<32+1, math.MinInt+1)
}

func badRefs() []int {
	return append(badWords(), 51, 52, 64, 100, 255, 256, 306, 65536, 65586, 1<<32+50, -50, -51, -256)
}

// badInfos are all that cannot be known of a frame with one fault, and some with more.
func badInfos() []impl.Info {
	all := freeFaults()
	for _, refs := range []int{0, 1, 50} {
		for _, guard := range []string{"", "b", "abca"} {
			for _, kind := range badKinds() {
				all = append(all, info(kind, guard, refs))
			}
		}
		for kind := 1; kind <= 3; kind++ {
			for _, guard := range someBadTexts() {
				all = append(all, info(kind, guard, refs))
			}
		}
	}
	for kind := 1; kind <= 3; kind++ {
		for _, guard := range []string{"", "b", "abca"} {
			for _, refs := range badRefs() {
				all = append(all, info(kind, guard, refs))
			}
		}
	}
	return append(all, info(4, "d", 51), info(-1, "aaaaa", -1), info(0, "d", -1), info(1, "d", 51), info(2, "aaaaa", -1), info(4, "", 51))
}

// freeFaults are free frames that have a right or uses, which would be valid for another kind, or not.
func freeFaults() []impl.Info {
	all := []impl.Info{info(0, "a", 1), info(0, "cccc", 50)}
	for _, guard := range append(slices.Clone(eachRight[1:]), someBadTexts()...) {
		all = append(all, info(0, guard, 0))
	}
	for refs := 1; refs <= 50; refs++ {
		all = append(all, info(0, "", refs))
	}
	for _, refs := range badRefs() {
		all = append(all, info(0, "", refs))
	}
	return all
}

type namedInfos struct {
	name string
	list []impl.Info
}

// faultyInfos have one bad frame at each place, where all others are free, have data, or are used in any way.
func faultyInfos() []namedInfos {
	all := []namedInfos{}
	for i, bad := range badInfos() {
		for frame := range 12 {
			for _, start := range [][]impl.Info{freeInfos(), dataInfos(), withFree(usedInfos(i), (frame+5)%12)} {
				name := "frame " + strconv.Itoa(frame) + " of kind " + strconv.Itoa(bad.Kind) + ", right " + strconv.Quote(bad.Guard) + " and uses " + strconv.Itoa(bad.Refs)
				all = append(all, namedInfos{name, withInfo(start, frame, bad)})
			}
		}
	}
	return all
}

// otherInfos have other lengths: one frame is missing at each place, or is there twice, or there are far too few or too many.
func otherInfos() []namedInfos {
	all := []namedInfos{{"nil", nil}, {"empty", []impl.Info{}}, {"none of 12", freeInfos()[:0]}}
	for _, start := range writtenInfos() {
		for frame, x := range start {
			at := strconv.Itoa(frame)
			all = append(all,
				namedInfos{"without frame " + at, slices.Delete(slices.Clone(start), frame, frame+1)},
				namedInfos{"with frame " + at + " twice", slices.Insert(slices.Clone(start), frame, x)},
				namedInfos{"with a free frame in front of " + at, slices.Insert(slices.Clone(start), frame, impl.Info{})},
				namedInfos{"the first " + at, start[:frame]})
		}
		all = append(all, namedInfos{"with a free frame behind", append(slices.Clone(start), impl.Info{})})
	}
	for _, many := range []int{14, 16, 24, 48, 255, 256, 268, 65536, 65548} {
		all = append(all,
			namedInfos{strconv.Itoa(many) + " free frames", slices.Repeat([]impl.Info{{}}, many)},
			namedInfos{strconv.Itoa(many) + " frames with data", slices.Repeat([]impl.Info{info(1, "a", 0)}, many)})
	}
	return all
}

// doublyInvalidInfos have several faults together.
func doublyInvalidInfos() []namedInfos {
	return []namedInfos{
		{"12 bad kinds", slices.Repeat([]impl.Info{info(4, "", 0)}, 12)},
		{"12 bad rights", slices.Repeat([]impl.Info{info(1, "d", 0)}, 12)},
		{"11 bad frames", slices.Repeat([]impl.Info{info(0, "a", 0)}, 11)},
		{"13, the last one bad", append(freeInfos(), info(-1, "", 0))},
		{"13, the first one bad", append([]impl.Info{info(1, "", 51)}, freeInfos()...)},
		{"a bad frame at both ends", withInfo(withInfo(freeInfos(), 0, info(0, "", 1)), 11, info(1, "", -1))},
		{"1 bad frame", []impl.Info{info(1, strings.Repeat("a", 5), 0)}},
	}
}

func invalidInfos() []namedInfos {
	return slices.Concat(faultyInfos(), otherInfos(), doublyInvalidInfos())
}

// short is the beginning of what is printed of a value, as some lists are very long, and some texts in them have any bytes.
func short(x any) string {
	text := fmt.Sprint(x)
	return strings.ToValidUTF8(text[:min(len(text), 500)], "?")
}

func checkInfos(t *testing.T, list []impl.Info, want bool) {
	t.Helper()
	if got := impl.InfosValid(list); got != want {
		t.Errorf("InfosValid(%s) is %t", short(list), got)
	}
}

func checkFree(t *testing.T, list []impl.Info, want int) {
	t.Helper()
	if got := impl.InfosFree(list); got != want {
		t.Errorf("InfosFree(%v) is %d, not %d", list[:min(len(list), 14)], got, want)
	}
}

// checkTaken expects that the frame has data then, and that all others are as they were.
func checkTaken(t *testing.T, list []impl.Info, guard string, frame int) {
	t.Helper()
	want := withInfo(list, frame, info(1, guard, 0))
	if got, f, ok := impl.InfosTake(list, guard); !slices.Equal(got, want) || f != frame || !ok {
		t.Errorf("InfosTake(%v, %q) is %v, %d, %t, not %v, %d", list, guard, got, f, ok, want, frame)
	}
}

func checkNotTaken(t *testing.T, list []impl.Info, guard string) {
	t.Helper()
	if got, f, ok := impl.InfosTake(list, guard); len(got) != 0 || f != 0 || ok {
		t.Errorf("InfosTake(%v, %.20q) is %v, %d, %t", list[:min(len(list), 14)], guard, got[:min(len(got), 14)], f, ok)
	}
}

// checkGiven expects that the frame is free then, and that all others are as they were.
func checkGiven(t *testing.T, list []impl.Info, frame int) {
	t.Helper()
	want := withFree(list, frame)
	if got, ok := impl.InfosGive(list, frame); !slices.Equal(got, want) || !ok {
		t.Errorf("InfosGive(%v, %d) is %v, %t, not %v", list, frame, got, ok, want)
	}
}

func checkNotGiven(t *testing.T, list []impl.Info, frame int) {
	t.Helper()
	if got, ok := impl.InfosGive(list, frame); len(got) != 0 || ok {
		t.Errorf("InfosGive(%v, %d) is %v, %t", list[:min(len(list), 14)], frame, got[:min(len(got), 14)], ok)
	}
}

// checkInvalidInfos expects that nothing can be done with the list, whatever else is asked for.
func checkInvalidInfos(t *testing.T, name string, list []impl.Info, guards []string, frames []int) {
	t.Helper()
	if impl.InfosValid(list) {
		t.Errorf("%s: the list is valid", name)
	}
	checkFree(t, list, -1)
	for _, guard := range guards {
		checkNotTaken(t, list, guard)
	}
	for _, frame := range frames {
		checkNotGiven(t, list, frame)
	}
}
