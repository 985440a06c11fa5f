package tests

import (
	"math/bits"
	"slices"
	"strconv"
	"testing"

	"loop.example/exopager/impl"
)

func allPages() []int {
	return []int{0, 1, 2, 3, 4, 5, 6, 7, 8, 9, 10, 11, 12, 13, 14, 15}
}

// longestTrace has each page, and half of them twice.
func longestTrace() []int {
	return append(allPages(), allPages()[:8]...)
}

// writtenTraces are valid traces that are written out: no use, one use, one page many times, pages that come in circles and back, as many different pages as there are, and traces that are as long as possible.
func writtenTraces() [][]int {
	return [][]int{
		nil,
		{},
		{0},
		{15},
		{7, 7},
		{0, 15},
		{15, 0, 15},
		{1, 2, 1, 3, 1},
		{1, 2, 1, 3, 2},
		{1, 2, 3, 1, 3, 2},
		{1, 2, 3, 4, 1, 2, 5, 1, 2, 3, 4, 5},
		{7, 0, 1, 2, 0, 3, 0, 4, 2, 3, 0, 3, 2, 1, 2, 0, 1, 7, 0, 1},
		slices.Repeat([]int{3}, 24),
		slices.Repeat([]int{0, 15}, 12),
		slices.Repeat([]int{4, 9, 14}, 8),
		slices.Repeat([]int{0, 1, 2, 3, 4}, 5)[:24],
		slices.Repeat([]int{5, 5, 6, 6, 7}, 4),
		slices.Repeat(allPages()[:12], 2),
		slices.Repeat(allPages()[:13], 2)[:24],
		slices.Repeat(allPages()[1:], 2)[:24],
		allPages(),
		backward(allPages()),
		longestTrace(),
		append(allPages(), backward(allPages())[:8]...),
		append(backward(allPages()[:12]), allPages()[:12]...),
		append(backward(allPages()[4:]), 15, 4, 5, 6, 7, 8, 9, 10, 11, 12, 13, 14),
	}
}

// worseTrace is a trace on which FaultsFirst has more faults with one frame more than with some frames.
type worseTrace struct {
	list   []int
	frames int
	faults int
	more   int
}

// worseTraces are written out, and follow a rule: for each number of frames for which a trace is long enough, pages in circles that leave out the last ones of them.
func worseTraces() []worseTrace {
	all := []worseTrace{
		{[]int{2, 0, 3, 2, 1, 2, 5, 0, 5, 2, 1, 4, 0, 3, 1, 2, 4, 4, 0, 3, 1, 2, 5, 0}, 3, 14, 18},
		{[]int{3, 3, 2, 1, 4, 5, 2, 2, 1, 3, 2, 6, 1, 5, 3, 4, 6, 2, 5, 0, 4, 1, 2, 6}, 3, 15, 20},
		{[]int{3, 2, 0, 6, 4, 3, 2, 5, 3, 1, 2, 6, 5, 0, 1, 6, 5, 5, 4, 1, 2, 4, 6, 0}, 4, 13, 17},
		{[]int{3, 0, 2, 7, 5, 3, 3, 5, 0, 6, 4, 3, 2, 0, 1, 6, 4, 7, 3, 2, 1, 5, 6, 7}, 4, 15, 20},
		{[]int{1, 7, 3, 7, 4, 6, 2, 1, 7, 5, 1, 5, 0, 3, 4, 7, 0, 2, 5, 1, 0, 2, 3, 4}, 5, 14, 18},
		{[]int{4, 5, 3, 0, 7, 4, 6, 4, 5, 8, 2, 1, 5, 4, 8, 7, 3, 8, 2, 0, 5, 1, 7, 3}, 5, 15, 20},
	}
	for frames := 3; frames <= 7; frames++ {
		pages := allPages()[:frames+2]
		list := slices.Concat(pages[:frames+1], pages[:frames-1], pages[frames+1:], pages)
		all = append(all, worseTrace{list, frames, 2*frames + 3, 2*frames + 4})
	}
	return all
}

// shortTraces have up to eight uses: one for each way in which these can be of the same page or of different ones, whichever pages these are. A page that is new has the next number; then all are renamed.
func shortTraces() [][]int {
	all := [][]int{{}}
	from := 0
	for range 8 {
		to := len(all)
		for _, list := range all[from:to] {
			for number := range slices.Max(append(list, -1)) + 2 {
				all = append(all, append(slices.Clone(list), number))
			}
		}
		from = to
	}
	for i, list := range all {
		for at, number := range list {
			list[at] = (5*number + i) % 16
		}
	}
	return all
}

// longTraces follow a short rule. They have from 9 to 24 uses, of 2 to 16 different pages, some of which come again soon.
func longTraces() [][]int {
	all := [][]int{}
	for number := range 900 {
		next := series(number)
		pages, length, again := 2+number%15, 9+number/15%16, number%4
		list := []int{}
		for at := range length {
			if at > 0 && next(5) < again {
				list = append(list, list[max(0, at-1-next(4))])
			} else {
				list = append(list, (7*next(pages)+number)%16)
			}
		}
		all = append(all, list)
	}
	return all
}

func validTraces() [][]int {
	all := slices.Concat(writtenTraces(), shortTraces(), longTraces())
	for _, x := range worseTraces() {
		all = append(all, x.list)
	}
	return all
}

// someTraces are those that are written out, and some of all others: of each length, with each number of different pages.
func someTraces() [][]int {
	all := writtenTraces()
	for i, list := range shortTraces() {
		if i%13 == 0 {
			all = append(all, list)
		}
	}
	for i, list := range longTraces() {
		if i%7 == 0 {
			all = append(all, list)
		}
	}
	return all
}

// tooLongTraces have only pages that there are.
func tooLongTraces() []namedList {
	all := []namedList{}
	for _, many := range []int{25, 26, 27, 32, 48, 64, 255, 256, 257, 264, 280, 1000, 65536, 65537, 65560} {
		name := strconv.Itoa(many) + " uses"
		all = append(all,
			namedList{name + " of page 0", make([]int, many)},
			namedList{name + " of two pages", slices.Repeat([]int{15, 3}, many)[:many]},
			namedList{name + " of all pages", slices.Repeat(allPages(), many)[:many]})
	}
	return all
}

// faultyTraces have one page that there is not, in place of one of each place of traces of each length.
func faultyTraces() []namedList {
	all := []namedList{}
	for length := 1; length <= 24; length++ {
		for at := range length {
			for _, bad := range append(badWords(), 16, 17, 31, 32, 63, 64, 255, 256, 1<<16+5, 1<<62+5) {
				list := longestTrace()[:length]
				list[at] = bad
				all = append(all, namedList{strconv.Itoa(bad) + " at " + strconv.Itoa(at) + " of " + strconv.Itoa(length), list})
			}
		}
	}
	return all
}

// doublyFaultyTraces are too long and have pages that there are not, or have several of these.
func doublyFaultyTraces() []namedList {
	all := []namedList{}
	for _, bad := range []int{-1, 16} {
		name := strconv.Itoa(bad)
		all = append(all,
			namedList{name + " alone, twice", []int{bad, bad}},
			namedList{name + " at both ends", []int{bad, 4, 5, bad}},
			namedList{name + " everywhere", slices.Repeat([]int{bad}, 24)},
			namedList{name + " in front of 24", append([]int{bad}, longestTrace()...)},
			namedList{name + " among 24", slices.Insert(longestTrace(), 12, bad)},
			namedList{name + " behind 24", append(longestTrace(), bad)},
			namedList{name + " and its opposite", []int{bad, 15 - bad}})
	}
	return all
}

func invalidTraces() []namedList {
	return slices.Concat(tooLongTraces(), faultyTraces(), doublyFaultyTraces())
}

// spansOf looks back from each use.
func spansOf(list []int) []int {
	spans := []int{}
	for at, number := range list {
		others := map[int]bool{}
		back := at - 1
		for back >= 0 && list[back] != number {
			others[list[back]] = true
			back--
		}
		if back < 0 {
			spans = append(spans, -1)
		} else {
			spans = append(spans, len(others))
		}
	}
	return spans
}

// differentPages are the pages of a trace, in ascending order.
func differentPages(list []int) []int {
	return slices.Compact(slices.Sorted(slices.Values(list)))
}

// faultRule is a function that counts faults, and what the document says of it: the page goes for which a number is the least one.
type faultRule struct {
	name   string
	faults func(list []int, frames int) int
	stays  func(list []int, at int, number int, came int) int
}

func firstRule() faultRule {
	return faultRule{"FaultsFirst", impl.FaultsFirst, func(_ []int, _ int, _ int, came int) int { return came }}
}

func lastRule() faultRule {
	return faultRule{"FaultsLast", impl.FaultsLast, func(list []int, at int, number int, _ int) int {
		for list[at] != number {
			at--
		}
		return at
	}}
}

func bestRule() faultRule {
	return faultRule{"FaultsBest", impl.FaultsBest, func(list []int, at int, number int, _ int) int {
		for at < len(list) && list[at] != number {
			at++
		}
		return -at
	}}
}

func faultRules() []faultRule {
	return []faultRule{firstRule(), lastRule(), bestRule()}
}

// played makes all uses of a trace with some frames, each of which keeps its number as pages take the place of others. It returns how many faults there are, and the pages in frames at the end, in ascending order.
func (x faultRule) played(list []int, frames int) (int, []int) {
	held, came, faults := []int{}, []int{}, 0
	for at, number := range list {
		if slices.Contains(held, number) {
			continue
		}
		faults++
		if len(held) < frames {
			held, came = append(held, number), append(came, at)
			continue
		}
		goes := 0
		for frame := range held {
			if x.stays(list, at, held[frame], came[frame]) < x.stays(list, at, held[goes], came[goes]) {
				goes = frame
			}
		}
		held[goes], came[goes] = number, at
	}
	slices.Sort(held)
	return faults, held
}

// want is the number of faults, or -1.
func (x faultRule) want(list []int, frames int) int {
	if frames < 1 || frames > 12 {
		return -1
	}
	faults, _ := x.played(list, frames)
	return faults
}

// fewestFaults tries all ways to replace pages. Of all ways that lead to the same pages in frames, only the number of faults of the best one is kept; bits of a number tell which pages these are.
func fewestFaults(list []int, frames int) int {
	ways := map[int]int{0: 0}
	for _, number := range list {
		next := map[int]int{}
		put := func(held int, faults int) {
			if old, ok := next[held]; !ok || faults < old {
				next[held] = faults
			}
		}
		for held, faults := range ways {
			if held>>number&1 == 1 {
				put(held, faults)
				continue
			}
			if bits.OnesCount(uint(held)) < frames {
				put(held|1<<number, faults+1)
				continue
			}
			for other := range 16 {
				if held>>other&1 == 1 {
					put(held-1<<other+1<<number, faults+1)
				}
			}
		}
		ways = next
	}
	fewest := len(list)
	for _, faults := range ways {
		fewest = min(fewest, faults)
	}
	return fewest
}

func checkTrace(t *testing.T, list []int, want bool) {
	t.Helper()
	if got := impl.TraceValid(list); got != want {
		t.Errorf("TraceValid(%s) is %t", short(list), got)
	}
}

func checkSpans(t *testing.T, list []int, want ...int) {
	t.Helper()
	if got := impl.TraceSpans(list); !slices.Equal(got, want) {
		t.Errorf("TraceSpans(%s) is %s, not %v", short(list), short(got), want)
	}
}

// checkCounts expects the numbers of faults of the three functions.
func checkCounts(t *testing.T, list []int, frames int, first int, last int, best int) {
	t.Helper()
	for i, want := range []int{first, last, best} {
		x := faultRules()[i]
		if got := x.faults(list, frames); got != want {
			t.Errorf("%s(%s, %d) is %d, not %d", x.name, short(list), frames, got, want)
		}
	}
}

// checkSameCounts expects the numbers of faults that a trace has.
func checkSameCounts(t *testing.T, list []int, frames int, other []int) {
	t.Helper()
	checkCounts(t, list, frames, impl.FaultsFirst(other, frames), impl.FaultsLast(other, frames), impl.FaultsBest(other, frames))
}

// checkInvalidTrace tries all functions, the latter three with numbers of frames that there are and that there are not.
func checkInvalidTrace(t *testing.T, list []int) {
	t.Helper()
	checkTrace(t, list, false)
	checkSpans(t, list)
	for frames := -1; frames <= 13; frames++ {
		checkCounts(t, list, frames, -1, -1, -1)
	}
}
