package tests

import (
	"slices"
	"testing"
)

// faultCase is a trace with some frames, and how many faults the three functions count.
type faultCase struct {
	list   []int
	frames int
	first  int
	last   int
	best   int
}

func checkCases(t *testing.T, cases []faultCase) {
	t.Helper()
	for _, x := range cases {
		checkCounts(t, x.list, x.frames, x.first, x.last, x.best)
	}
}

// P126: no use has no fault, and one page has one, however often it is used; the numbers of frames are those that there are, and those beside them.
func TestFaultsOfNoPageAndOfOne(t *testing.T) {
	for frames := -1; frames <= 13; frames++ {
		none, one := 0, 1
		if frames < 1 || frames > 12 {
			none, one = -1, -1
		}
		checkCounts(t, nil, frames, none, none, none)
		checkCounts(t, []int{}, frames, none, none, none)
		for number := range 16 {
			for length := 1; length <= 24; length++ {
				checkCounts(t, slices.Repeat([]int{number}, length), frames, one, one, one)
			}
		}
	}
}

// P125, P126: pages in circles: if there are more of them than frames, the first two functions have a fault at each use, and otherwise all three have one for each page.
func TestFaultsOfCircles(t *testing.T) {
	for many := 1; many <= 16; many++ {
		list := slices.Repeat(allPages()[:many], 24)[:24]
		for frames := 1; frames <= 12; frames++ {
			if frames >= many {
				checkCounts(t, list, frames, many, many, many)
			} else {
				checkCounts(t, list, frames, 24, 24, bestRule().want(list, frames))
			}
		}
	}
	checkCases(t, []faultCase{
		{[]int{0, 1, 2, 3, 0, 1, 2, 3, 0, 1, 2, 3}, 1, 12, 12, 12},
		{[]int{0, 1, 2, 3, 0, 1, 2, 3, 0, 1, 2, 3}, 2, 12, 12, 9},
		{[]int{0, 1, 2, 3, 0, 1, 2, 3, 0, 1, 2, 3}, 3, 12, 12, 6},
		{[]int{0, 1, 2, 3, 0, 1, 2, 3, 0, 1, 2, 3}, 4, 4, 4, 4},
	})
}

// P126: free frames are filled first: no page goes before all frames have pages, and each page that goes leaves room for one only.
func TestFaultsUntilAllFramesHavePages(t *testing.T) {
	for frames := 1; frames <= 12; frames++ {
		pages := allPages()[16-frames:]
		full := append(slices.Clone(pages), pages...)
		checkCounts(t, full, frames, frames, frames, frames)
		checkCounts(t, append(slices.Clone(pages), backward(pages)...), frames, frames, frames, frames)
		// One page more takes the place of the next one that comes, and this one again; the last one would be best. With 12 frames, there is no room for its use in the trace.
		list := slices.Concat(pages, []int{0}, pages)[:min(2*frames+1, 24)]
		best := min(frames+2, 13)
		checkCounts(t, list, frames, len(list), len(list), best)
	}
}

// P125: traces that are written out, on which the functions differ from each other.
func TestWrittenFaults(t *testing.T) {
	long := []int{7, 0, 1, 2, 0, 3, 0, 4, 2, 3, 0, 3, 2, 1, 2, 0, 1, 7, 0, 1}
	checkCases(t, []faultCase{
		{[]int{1, 2, 3, 1, 2, 4, 1}, 3, 5, 4, 4},
		{[]int{3, 1, 2, 3, 0, 1, 2}, 2, 7, 7, 5},
		{[]int{3, 1, 2, 3, 0, 1, 2}, 3, 4, 6, 4},
		{[]int{3, 1, 2, 3, 0, 1, 2}, 4, 4, 4, 4},
		{[]int{0, 1, 2, 3, 2, 1, 0, 1, 2, 3}, 3, 8, 6, 6},
		{[]int{1, 2, 3, 1, 4, 1, 5, 1, 6, 1}, 2, 8, 7, 6},
		{[]int{1, 2, 3, 1, 4, 1, 5, 1, 6, 1}, 5, 7, 6, 6},
		{long, 1, 20, 20, 20},
		{long, 2, 15, 17, 13},
		{long, 3, 15, 12, 9},
		{long, 4, 10, 8, 8},
		{long, 5, 9, 7, 7},
		{long, 6, 6, 6, 6},
		{long, 12, 6, 6, 6},
	})
}

// P124: FaultsFirst may have more faults with one frame more, and the other ones may not.
func TestFaultsWithOneFrameMore(t *testing.T) {
	list := []int{1, 2, 3, 4, 1, 2, 5, 1, 2, 3, 4, 5}
	checkCases(t, []faultCase{
		{list, 1, 12, 12, 12},
		{list, 2, 12, 12, 9},
		{list, 3, 9, 10, 7},
		{list, 4, 10, 8, 6},
		{list, 5, 5, 5, 5},
		{list, 6, 5, 5, 5},
	})
	for _, x := range worseTraces() {
		checkCounts(t, x.list, x.frames, x.faults, lastRule().want(x.list, x.frames), bestRule().want(x.list, x.frames))
		checkCounts(t, x.list, x.frames+1, x.more, lastRule().want(x.list, x.frames+1), bestRule().want(x.list, x.frames+1))
	}
}

// P125: which page is replaced, where this makes a difference: the one that came first, though it was used since then.
func TestFaultsOfThePageThatCameFirst(t *testing.T) {
	checkCases(t, []faultCase{
		{[]int{1, 2, 1, 3, 1}, 2, 4, 3, 3},
		{[]int{1, 2, 1, 1, 1, 3, 1}, 2, 4, 3, 3},
		{[]int{1, 2, 3, 2, 1, 4, 1}, 3, 5, 4, 4},
		// 1 comes again in place of 2, and is the last one to have come then, so that 3 goes for 4.
		{[]int{1, 2, 3, 1, 4, 1}, 2, 5, 5, 4},
		{[]int{1, 2, 3, 1, 4, 5, 4, 1}, 2, 7, 7, 6},
		{[]int{1, 2, 1, 3, 2}, 2, 3, 4, 3},
	})
}

// P125: the one whose last use is the longest time ago, though it came after others, or was used more often.
func TestFaultsOfThePageOfTheLastUse(t *testing.T) {
	checkCases(t, []faultCase{
		{[]int{1, 2, 1, 3, 2}, 2, 3, 4, 3},
		{[]int{1, 2, 2, 2, 2, 1, 3, 2}, 2, 3, 4, 3},
		{[]int{1, 2, 3, 1, 2, 4, 3}, 3, 4, 5, 4},
		{[]int{1, 2, 3, 2, 1, 4, 2}, 3, 4, 4, 4},
		{[]int{1, 2, 3, 2, 1, 4, 3}, 3, 4, 5, 4},
		{[]int{1, 2, 3, 2, 1, 4, 5, 2}, 3, 6, 6, 5},
	})
}

// P125: one that is not used any more, also if another one's next use is late; if there are several, any of them; if there is none, the one whose next use is the latest.
func TestFaultsOfThePageThatIsNotUsedAnyMore(t *testing.T) {
	checkCases(t, []faultCase{
		// 2 is not used any more, and 1 not before the end.
		{[]int{1, 2, 3, 1}, 2, 4, 4, 3},
		{[]int{2, 1, 3, 1}, 2, 3, 3, 3},
		{[]int{1, 2, 3, 3, 3, 3, 3, 3, 1}, 2, 4, 4, 3},
		{[]int{2, 1, 3, 4, 3, 4, 1}, 3, 4, 4, 4},
		{[]int{1, 2, 3, 4, 3, 4, 1}, 3, 5, 5, 4},
		// 2 and 3 are not used any more, and 1 is.
		{[]int{1, 2, 3, 4, 1}, 3, 5, 5, 4},
		{[]int{1, 2, 3, 4, 5, 1}, 3, 6, 6, 5},
		{[]int{1, 2, 3, 4, 5, 6, 1}, 3, 7, 7, 6},
		{[]int{2, 1, 3, 4, 5, 6, 1}, 4, 7, 7, 6},
		// No page is used any more.
		{[]int{1, 2, 3, 4, 5}, 2, 5, 5, 5},
		// Both are used again, 1 at once and 2 later.
		{[]int{1, 2, 3, 1, 3, 2}, 2, 5, 5, 4},
		{[]int{2, 1, 3, 1, 3, 2}, 2, 4, 4, 4},
		// What counts is the next use, not the last one, and not how many there are.
		{[]int{1, 2, 3, 2, 3, 1, 1, 1, 1}, 2, 4, 4, 4},
		{[]int{1, 2, 3, 1, 3, 2, 2, 2, 1}, 2, 5, 6, 4},
		{[]int{1, 2, 3, 1, 3, 2, 3, 1}, 2, 7, 6, 5},
	})
}

// P125: a page whose next use is the last use of the longest trace stays, as no other one is used any more, wherever it is among those in frames.
func TestFaultsOfPagesThatAreUsedAtTheEnd(t *testing.T) {
	for frames := 2; frames <= 12; frames++ {
		pages := allPages()[:frames]
		for _, number := range pages {
			// The pages that come, from 13 on, are fewer than the frames, so the page need not go for any of them.
			for many := 1; many <= min(frames-1, 3); many++ {
				list := slices.Concat(pages, []int{13, 14, 15}[:many], slices.Repeat([]int{12 + many}, 23-frames-many), []int{number})
				checkCounts(t, list, frames, firstRule().want(list, frames), lastRule().want(list, frames), frames+many)
			}
		}
	}
}

// P126: each page may be the one that is not used any more, the one that is used late, and the one that comes, at either end of all pages that there are.
func TestFaultsOfEachPage(t *testing.T) {
	for one := range 16 {
		for two := range 16 {
			for three := range 16 {
				if one == two || two == three || one == three {
					continue
				}
				checkCases(t, []faultCase{
					{[]int{one, two, three, one}, 2, 4, 4, 3},
					{[]int{one, two, one, three, one}, 2, 4, 3, 3},
					{[]int{one, two, one, three, two}, 2, 3, 4, 3},
					{[]int{one, two, three, one, three, two}, 2, 5, 5, 4},
				})
			}
		}
	}
}

// P123 to P126: all traces, with each number of frames, and with those beside them.
func TestFaultsOfAllTraces(t *testing.T) {
	for _, list := range validTraces() {
		for frames := -1; frames <= 13; frames++ {
			checkCounts(t, list, frames, firstRule().want(list, frames), lastRule().want(list, frames), bestRule().want(list, frames))
		}
	}
}

// P123, P125: which pages are in frames at the end of a trace: those that have no fault if they are used next. What comes next makes no difference to the first two functions.
func TestPagesInFramesAtTheEnd(t *testing.T) {
	replaced := 0
	for _, list := range validTraces() {
		if len(list) == 24 {
			list = list[:23]
		}
		for _, x := range []faultRule{firstRule(), lastRule()} {
			for frames := 1; frames <= 12; frames++ {
				faults, held := x.played(list, frames)
				got := []int{}
				for number := range 16 {
					if x.faults(append(slices.Clone(list), number), frames) == faults {
						got = append(got, number)
					}
				}
				if !slices.Equal(got, held) {
					t.Errorf("%s of %v, with %d frames, has %v in frames at the end, not %v", x.name, list, frames, got, held)
				}
				if len(held) < len(differentPages(list)) {
					replaced++
				}
			}
		}
	}
	if replaced < 10000 {
		t.Errorf("pages were replaced %d times", replaced)
	}
}

// P125: nothing has fewer faults than FaultsBest: all ways to replace pages, on all short traces, and on long ones with few pages.
func TestFaultsOfAllWays(t *testing.T) {
	less := 0
	for _, list := range validTraces() {
		if len(list) > 8 && len(differentPages(list)) > 9 {
			continue
		}
		for frames := 1; frames <= 12; frames++ {
			first, last, best := firstRule().want(list, frames), lastRule().want(list, frames), fewestFaults(list, frames)
			checkCounts(t, list, frames, first, last, best)
			if best < min(first, last) {
				less++
			}
		}
	}
	if less < 1000 {
		t.Errorf("FaultsBest is less than both others %d times", less)
	}
}

// P125: the examples are such that the functions differ from each other, in each way that the promises allow.
func TestExamplesDiffer(t *testing.T) {
	ways := map[string]int{}
	for _, list := range validTraces() {
		for frames := 1; frames <= 12; frames++ {
			first, last, best := firstRule().want(list, frames), lastRule().want(list, frames), bestRule().want(list, frames)
			switch {
			case best < first && first < last:
				ways["best, first, last"]++
			case best < last && last < first:
				ways["best, last, first"]++
			case best == first && first < last:
				ways["first, last"]++
			case best == last && last < first:
				ways["last, first"]++
			case best < first:
				ways["best"]++
			}
			if frames < 12 && firstRule().want(list, frames+1) > first {
				ways["one frame more"]++
			}
		}
	}
	for _, way := range []string{"best, first, last", "best, last, first", "first, last", "last, first", "best", "one frame more"} {
		if ways[way] < 10 {
			t.Errorf("the examples differ in the ways %v", ways)
		}
	}
}
