package tests

import (
	"slices"
	"testing"

	"loop.example/exopager/impl"
)

func TestConstantOfTraces(t *testing.T) {
	if impl.TraceMax != 24 {
		t.Errorf("a trace has up to %d pages", impl.TraceMax)
	}
}

// P122, P131: traces of each length up to the greatest one, and of one page more.
func TestTracesOfEachLength(t *testing.T) {
	checkTrace(t, nil, true)
	checkTrace(t, []int{}, true)
	for length := range 25 {
		for number := range 16 {
			checkTrace(t, slices.Repeat([]int{number}, length), true)
		}
		checkTrace(t, slices.Repeat([]int{15, 0, 7}, 8)[:length], true)
	}
	checkTrace(t, make([]int, 25), false)
	checkTrace(t, slices.Repeat([]int{15, 0, 7, 3, 9}, 5), false)
}

// P131: each page, and those beside them, at each place of traces of each length.
func TestPagesAtEachPlace(t *testing.T) {
	for length := 1; length <= 25; length++ {
		for at := range length {
			list := slices.Repeat([]int{0, 15, 8}, 9)[:length]
			for number := -3; number <= 19; number++ {
				list[at] = number
				checkTrace(t, list, length <= 24 && number >= 0 && number <= 15)
			}
		}
	}
}

// P122, P131: all examples are valid; they are of each length, with each number of different pages.
func TestValidTraces(t *testing.T) {
	lengths, pages := [25]int{}, [17]int{}
	for _, list := range validTraces() {
		checkTrace(t, list, true)
		lengths[len(list)]++
		pages[len(differentPages(list))]++
	}
	if slices.Min(lengths[:]) == 0 || slices.Min(pages[:]) == 0 {
		t.Errorf("the traces have the lengths %v, and the numbers of pages %v", lengths, pages)
	}
}

// P131: without any one use, and with a page that does not exist, in place of each one, and in front of and behind each one.
func TestTracesWithoutOneAndWithNoPage(t *testing.T) {
	for _, list := range validTraces() {
		for at := range list {
			checkTrace(t, slices.Delete(slices.Clone(list), at, at+1), true)
		}
		for _, bad := range []int{-1, 16} {
			for at := range len(list) + 1 {
				checkTrace(t, slices.Insert(slices.Clone(list), at, bad), false)
				if at < len(list) {
					other := slices.Clone(list)
					other[at] = bad
					checkTrace(t, other, false)
				}
			}
		}
	}
}

// P122: spans that are written out.
func TestWrittenSpans(t *testing.T) {
	checkSpans(t, nil)
	checkSpans(t, []int{})
	checkSpans(t, []int{0}, -1)
	checkSpans(t, []int{15}, -1)
	checkSpans(t, []int{7, 7}, -1, 0)
	checkSpans(t, []int{0, 0, 0, 0}, -1, 0, 0, 0)
	checkSpans(t, []int{7, 8, 7}, -1, -1, 1)
	checkSpans(t, []int{7, 8, 8, 7}, -1, -1, 0, 1)
	checkSpans(t, []int{7, 8, 8, 8, 7, 8}, -1, -1, 0, 0, 1, 1)
	checkSpans(t, []int{7, 8, 9, 8, 9, 7}, -1, -1, -1, 1, 1, 2)
	checkSpans(t, []int{7, 8, 9, 9, 8, 7}, -1, -1, -1, 0, 1, 2)
	checkSpans(t, []int{7, 7, 8, 7, 7, 9, 8}, -1, 0, -1, 1, 0, -1, 2)
	checkSpans(t, []int{1, 2, 3, 1, 2, 4, 1}, -1, -1, -1, 2, 2, -1, 2)
	checkSpans(t, []int{0, 1, 2, 3, 0, 1, 2, 3}, -1, -1, -1, -1, 3, 3, 3, 3)
	checkSpans(t, []int{0, 1, 2, 3, 3, 2, 1, 0}, -1, -1, -1, -1, 0, 1, 2, 3)
	checkSpans(t, slices.Repeat([]int{15}, 24), append([]int{-1}, make([]int, 23)...)...)
	checkSpans(t, allPages(), slices.Repeat([]int{-1}, 16)...)
}

// P122: a page comes again after each number of other pages, in any order, with all pages in front of the first use or with none.
func TestSpansOfEachNumber(t *testing.T) {
	for number := range 16 {
		others := slices.DeleteFunc(allPages(), func(n int) bool { return n == number })
		for many := range 16 {
			for _, between := range [][]int{others[:many], backward(others)[:many], bothEnds(others)[:many]} {
				list := slices.Concat([]int{number}, between, []int{number})
				checkSpans(t, list, append(slices.Repeat([]int{-1}, many+1), many)...)
				list = slices.Concat(others[:7], list)
				if got := impl.TraceSpans(list); len(got) != len(list) || got[len(list)-1] != many || got[7] != -1 {
					t.Errorf("TraceSpans(%v) is %v", list, got)
				}
			}
		}
	}
}

// P122: pages that come several times between both uses count once: one behind the other, in circles, and back.
func TestSpansWithPagesThatComeAgain(t *testing.T) {
	for many := 1; many <= 11; many++ {
		others := []int{1, 2, 3, 4, 5, 6, 7, 8, 9, 10, 11}[:many]
		twice := []int{}
		for _, number := range others {
			twice = append(twice, number, number)
		}
		for _, between := range [][]int{twice, slices.Repeat(others, 2), slices.Repeat(others, 22/many), append(others[:many:many], backward(others)...), append(backward(twice)[:many], others...)} {
			list := slices.Concat([]int{0}, between, []int{0})
			got := impl.TraceSpans(list)
			if len(got) != len(list) || got[len(list)-1] != len(differentPages(between)) {
				t.Errorf("TraceSpans(%v) is %v", list, got)
			}
			checkSpans(t, list, spansOf(list)...)
		}
	}
}

// P122: the other uses of the same page, in front of the one before, make no difference.
func TestSpansSinceTheUseBefore(t *testing.T) {
	for many := range 10 {
		list := slices.Concat([]int{15, 0, 15}, []int{1, 2, 3, 4, 5, 6, 7, 8, 9}[:many], []int{15, 0})
		got := impl.TraceSpans(list)
		if len(got) != len(list) || got[2] != 1 || got[len(list)-2] != many || got[len(list)-1] != many+1 {
			t.Errorf("TraceSpans(%v) is %v", list, got)
		}
	}
}

// P122: each use of all traces; -1 exactly for first uses.
func TestSpansOfAllTraces(t *testing.T) {
	for _, list := range validTraces() {
		checkSpans(t, list, spansOf(list)...)
		for at, span := range impl.TraceSpans(list) {
			if (span == -1) == slices.Contains(list[:at], list[at]) || span < -1 || span > 15 {
				t.Errorf("of %v, the span of the use at %d is %d", list, at, span)
			}
		}
	}
}

// P122: the spans of the first uses of a trace are the first ones of its spans.
func TestSpansOfFirstUses(t *testing.T) {
	for _, list := range someTraces() {
		for many := range len(list) + 1 {
			checkSpans(t, list[:many], spansOf(list)[:many]...)
		}
	}
}

// P122, P131: spans are a trace themselves, if none of them is -1 or all that are become 15.
func TestSpansOfSpans(t *testing.T) {
	for _, list := range validTraces() {
		spans := impl.TraceSpans(list)
		checkTrace(t, spans, len(list) == 0)
		for at, span := range spans {
			if span < 0 {
				spans[at] = 15
			}
		}
		checkTrace(t, spans, true)
		checkSpans(t, spans, spansOf(spans)...)
	}
}
