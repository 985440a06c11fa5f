package tests

import (
	"slices"
	"testing"

	"loop.example/exopager/impl"
)

// promised calls a check for all traces, with each number of frames, and what the three functions return.
func promised(check func(list []int, frames int, first int, last int, best int)) {
	for _, list := range validTraces() {
		for frames := 1; frames <= 12; frames++ {
			check(list, frames, impl.FaultsFirst(list, frames), impl.FaultsLast(list, frames), impl.FaultsBest(list, frames))
		}
	}
}

// P123: the spans that are -1, or at least the number of frames. A span that is the number of frames counts, and one that is less by 1 does not.
func TestFaultsOfSpans(t *testing.T) {
	equal, less := 0, 0
	promised(func(list []int, frames int, _ int, last int, _ int) {
		count := 0
		for _, span := range impl.TraceSpans(list) {
			if span == -1 || span >= frames {
				count++
			}
			if span == frames {
				equal++
			}
			if span == frames-1 {
				less++
			}
		}
		if last != count {
			t.Errorf("FaultsLast(%v, %d) is %d, and the spans are %v", list, frames, last, impl.TraceSpans(list))
		}
	})
	if equal < 1000 || less < 1000 {
		t.Errorf("%d spans are the number of frames, and %d are less by 1", equal, less)
	}
}

// P124: one frame more.
func TestPromiseOfOneFrameMore(t *testing.T) {
	fewer := [2]int{}
	promised(func(list []int, frames int, _ int, last int, best int) {
		if frames == 12 {
			return
		}
		more, other := impl.FaultsLast(list, frames+1), impl.FaultsBest(list, frames+1)
		if more < 0 || other < 0 || more > last || other > best {
			t.Errorf("of %v, %d and %d faults with %d frames become %d and %d with one frame more", list, last, best, frames, more, other)
		}
		if more < last {
			fewer[0]++
		}
		if other < best {
			fewer[1]++
		}
	})
	if slices.Min(fewer[:]) < 1000 {
		t.Errorf("there are fewer faults with one frame more %v times", fewer)
	}
}

// P125: FaultsBest is not greater than the others.
func TestPromiseOfTheBestRule(t *testing.T) {
	promised(func(list []int, frames int, first int, last int, best int) {
		if best < 0 || best > first || best > last {
			t.Errorf("of %v, with %d frames, the numbers of faults are %d, %d and %d", list, frames, first, last, best)
		}
	})
}

// P126: the bounds of all numbers of faults, and as many frames as different pages, or more.
func TestPromiseOfDifferentPages(t *testing.T) {
	promised(func(list []int, frames int, first int, last int, best int) {
		different := len(differentPages(list))
		if best < different || best > len(list) || first > len(list) || last > len(list) {
			t.Errorf("of %v, with %d frames, the numbers of faults are %d, %d and %d", list, frames, first, last, best)
		}
		if frames >= different && (best != different || first != different || last != different) {
			t.Errorf("of %v, with %d frames, as many as pages, the numbers of faults are %d, %d and %d", list, frames, first, last, best)
		}
		if frames < different && min(best, first, last) < 0 {
			t.Errorf("of %v, with %d frames, the numbers of faults are %d, %d and %d", list, frames, first, last, best)
		}
	})
}

// P127: one frame: each use is a fault that is the first one or follows another page.
func TestPromiseOfOneFrame(t *testing.T) {
	for _, list := range validTraces() {
		changes := len(slices.Compact(slices.Clone(list)))
		checkCounts(t, list, 1, changes, changes, changes)
	}
}

// P128: any one use twice, one behind the other.
func TestPromiseOfUsesTwice(t *testing.T) {
	for _, list := range someTraces() {
		if len(list) == 24 {
			list = list[1:]
		}
		for at, number := range list {
			twice := slices.Insert(slices.Clone(list), at, number)
			for frames := 1; frames <= 12; frames++ {
				checkSameCounts(t, twice, frames, list)
			}
		}
	}
}

// P129: the first uses of a trace, each number of them; and of each page, the first use alone.
func TestPromiseOfFirstUses(t *testing.T) {
	for _, list := range someTraces() {
		parts := [][]int{}
		for many := range len(list) {
			parts = append(parts, list[:many])
		}
		once := []int{}
		for at, number := range list {
			if !slices.Contains(list[:at], number) {
				once = append(once, number)
			}
		}
		for frames := 1; frames <= 12; frames++ {
			for _, x := range faultRules() {
				whole := x.faults(list, frames)
				for _, part := range append(parts, once) {
					if got := x.faults(part, frames); got < 0 || got > whole {
						t.Errorf("%s of %v, with %d frames, is %d, and %d of %v", x.name, part, frames, got, whole, list)
					}
				}
			}
		}
	}
}

// P130: each page is replaced by the one whose number is 15 less it, or by the one that is so far behind it, going round.
func TestPromiseOfOtherPages(t *testing.T) {
	for _, list := range validTraces() {
		other, turned := []int{}, []int{}
		for _, number := range list {
			other, turned = append(other, 15-number), append(turned, (number+5)%16)
		}
		for frames := 1; frames <= 12; frames++ {
			checkSameCounts(t, other, frames, list)
			checkSameCounts(t, turned, frames, list)
		}
		checkSpans(t, other, impl.TraceSpans(list)...)
	}
}

// P131: without any one use, there are as many faults as the shorter trace has; with a page that does not exist, there are none to be counted.
func TestPromiseOfTracesWithoutOne(t *testing.T) {
	for _, list := range someTraces() {
		for at := range list {
			less := slices.Delete(slices.Clone(list), at, at+1)
			checkTrace(t, less, true)
			checkSpans(t, less, spansOf(less)...)
			for frames := 1; frames <= 12; frames++ {
				checkCounts(t, less, frames, firstRule().want(less, frames), lastRule().want(less, frames), bestRule().want(less, frames))
			}
			for _, bad := range []int{-1, 16} {
				none := slices.Clone(list)
				none[at] = bad
				checkInvalidTrace(t, none)
			}
		}
	}
}
