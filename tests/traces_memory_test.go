package tests

import (
	"slices"
	"testing"

	"loop.example/exopager/impl"
)

// traceChanges make spans of a trace.
func traceChanges() []listChange[int] {
	return []listChange[int]{{"TraceSpans", impl.TraceSpans}}
}

// tracesToChange are valid and invalid ones.
func tracesToChange() [][]int {
	lists := someTraces()
	for i, x := range invalidTraces() {
		if i%31 == 0 && len(x.list) < 50 {
			lists = append(lists, x.list)
		}
	}
	return append(lists, make([]int, 25), []int{-1}, []int{16})
}

// P122 to P131: no function changes a trace, or what lies behind it, and none reads that.
func TestTracesAreLeft(t *testing.T) {
	for _, start := range tracesToChange() {
		list := roomyList(start)
		before := slices.Clone(list[:cap(list)])
		checkTrace(t, list, impl.TraceValid(start))
		for frames := -1; frames <= 13; frames++ {
			checkSameCounts(t, list, frames, slices.Clip(slices.Clone(start)))
		}
		if !slices.Equal(list[:cap(list)], before) {
			t.Fatalf("%v is changed to %v", before, list[:cap(list)])
		}
		checkUntouched(t, start, roomyList, traceChanges())
	}
}

// P122: the spans share nothing with the trace, where there are as many as uses, or none.
func TestSpansShareNothingWithTheTrace(t *testing.T) {
	for _, start := range tracesToChange() {
		checkApart(t, start, roomyList, -77, traceChanges())
		checkApart(t, start, slices.Clone, -77, traceChanges())
	}
}

// P122: the spans of one trace share nothing with those of another call.
func TestTwoSpansShareNothing(t *testing.T) {
	for _, start := range tracesToChange() {
		checkResultsApart(t, start, roomyList, -77, traceChanges())
	}
}

// P122 to P131: traces that are parts of one slice, side by side and over each other.
func TestTracesInOneSlice(t *testing.T) {
	store := slices.Concat(longestTrace(), []int{16}, []int{1, 2, 3, 4, 1, 2, 5, 1, 2, 3, 4, 5})
	before := slices.Clone(store)
	one, two, three := store[:24], store[25:], store[4:20]
	spans := impl.TraceSpans(one)
	checkSpans(t, two, spansOf(two)...)
	checkSpans(t, three, spansOf(three)...)
	checkCounts(t, two, 3, 9, 10, 7)
	checkCounts(t, two, 4, 10, 8, 6)
	checkCounts(t, three, 12, 16, 16, bestRule().want(three, 12))
	checkInvalidTrace(t, store)
	checkInvalidTrace(t, store[:25])
	checkInvalidTrace(t, store[24:])
	spoilList(impl.TraceSpans(two))
	if !slices.Equal(store, before) || !slices.Equal(spans, spansOf(one)) {
		t.Errorf("the traces are %v, and the spans %v", store, spans)
	}
}

// P122 to P131: a call depends on nothing that earlier calls did.
func TestNoTraceIsKept(t *testing.T) {
	list := []int{1, 2, 3, 1, 2, 4, 1}
	for range 3 {
		checkCounts(t, list, 3, 5, 4, 4)
		checkSpans(t, list, -1, -1, -1, 2, 2, -1, 2)
		checkCounts(t, list, 2, 7, 7, 5)
		checkCounts(t, []int{1}, 3, 1, 1, 1)
		checkCounts(t, nil, 3, 0, 0, 0)
		checkSpans(t, []int{1}, -1)
	}
	list[3] = 16
	checkInvalidTrace(t, list)
	list[3] = 3
	checkSpans(t, list, -1, -1, -1, 0, 1, -1, 3)
	checkCounts(t, list, 3, 5, 5, 4)
	checkCounts(t, list[:6], 3, 4, 4, 4)
}
