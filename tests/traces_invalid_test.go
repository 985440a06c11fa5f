package tests

import (
	"slices"
	"testing"
)

// P122 to P131: too many uses, and pages that there are not, at each place, alone and together: there are no spans, and no faults are counted, whatever the number of frames is.
func TestInvalidTraces(t *testing.T) {
	for _, x := range invalidTraces() {
		checkInvalidTrace(t, x.list)
		if t.Failed() {
			t.Fatal(x.name)
		}
	}
}

// P131: every number that is out of range, alone and behind others.
func TestPagesThatThereAreNot(t *testing.T) {
	for _, n := range noneOf(16) {
		checkTrace(t, []int{n}, false)
		checkSpans(t, []int{n})
		for _, list := range [][]int{{n}, {n, 5}, {5, n}, {0, n, 15}, {n, n}} {
			checkTrace(t, list, false)
			checkSpans(t, list)
			checkCounts(t, list, 1, -1, -1, -1)
			checkCounts(t, list, 12, -1, -1, -1)
		}
	}
}

// P123 to P130: every number of frames that is out of range, with traces that are written out: none is counted, not for a trace of no use either.
func TestNumbersOfFramesOutOfRange(t *testing.T) {
	for _, frames := range append(noneOf(13), 0) {
		for _, list := range writtenTraces() {
			checkCounts(t, list, frames, -1, -1, -1)
		}
	}
}

// P123 to P130: the bounds of the numbers of frames, with all traces.
func TestNumbersOfFramesAtTheBounds(t *testing.T) {
	for _, list := range validTraces() {
		for _, frames := range []int{-1, 0, 13, 14, 24} {
			checkCounts(t, list, frames, -1, -1, -1)
		}
		changes := len(slices.Compact(slices.Clone(list)))
		checkCounts(t, list, 1, changes, changes, changes)
		if different := len(differentPages(list)); different <= 12 {
			checkCounts(t, list, 12, different, different, different)
		}
	}
}

// P123 to P131: the trace and the number of frames are both invalid.
func TestTracesAndNumbersOfFramesOutOfRange(t *testing.T) {
	for _, list := range [][]int{{-1}, {16}, {1, 2, -1}, {16, 1, 2}, make([]int, 25), slices.Repeat([]int{16}, 25)} {
		for _, frames := range append(noneOf(13), 0) {
			checkCounts(t, list, frames, -1, -1, -1)
		}
	}
}

// P131: one use more than there is room for, at each place, though the use has no fault or the trace would be right without another one.
func TestOneUseTooMuch(t *testing.T) {
	for _, list := range validTraces() {
		if len(list) != 24 {
			continue
		}
		checkTrace(t, list, true)
		for at := range 25 {
			longer := slices.Insert(slices.Clone(list), at, list[min(at, 23)])
			checkInvalidTrace(t, longer)
			checkTrace(t, slices.Delete(longer, 24-at, 25-at), true)
		}
	}
}

// P131: the uses in front of a page that there is not, and those behind it, are traces.
func TestTracesBesideAFault(t *testing.T) {
	for _, bad := range []int{-1, 16, 1 << 32, -1 << 32} {
		for at := range 24 {
			list := longestTrace()
			list[at] = bad
			checkInvalidTrace(t, list)
			checkTrace(t, list[:at], true)
			checkTrace(t, list[at+1:], true)
			checkSpans(t, list[at+1:], spansOf(list[at+1:])...)
			checkCounts(t, list[:at], 12, at, at, bestRule().want(list[:at], 12))
		}
	}
}
