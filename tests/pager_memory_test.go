package tests

import (
	"fmt"
	"slices"
	"strconv"
	"testing"

	"loop.example/exopager/impl"
)

// pagerPart is a list of a pager: how to write to all that it has, within its capacity, how to append to it, and what is read there. An outer one has the others of its group in it.
type pagerPart struct {
	name  string
	group string
	outer bool
	spoil func(p impl.Pager)
	more  func(p impl.Pager)
	read  func(p impl.Pager) string
}

func pagerPartOf[T any](name string, junk T, list func(p impl.Pager) []T) pagerPart {
	spoil := func(p impl.Pager) {
		whole := list(p)[:cap(list(p))]
		for i := range whole {
			whole[i] = junk
		}
	}
	more := func(p impl.Pager) { _ = append(list(p), junk, junk) }
	read := func(p impl.Pager) string { return fmt.Sprint(list(p)) }
	return pagerPart{name, name, false, spoil, more, read}
}

// inGroup is a part that lies in another one, or that has others in it.
func (x pagerPart) inGroup(group string, outer bool) pagerPart {
	x.group, x.outer = group, outer
	return x
}

// isApart tells whether neither of two parts lies in the other one.
func (x pagerPart) isApart(y pagerPart) bool {
	return x.name != y.name && (x.group != y.group || !x.outer && !y.outer)
}

// pagerParts are all lists of a pager.
func pagerParts() []pagerPart {
	all := []pagerPart{}
	for frame := range 12 {
		all = append(all, pagerPartOf("frame "+strconv.Itoa(frame), -77, func(p impl.Pager) []int { return p.Kernel.Memory[frame] }).inGroup("memory", false))
	}
	for env := range 3 {
		all = append(all, pagerPartOf("the rights of "+strconv.Itoa(env), "spoiled", func(p impl.Pager) []string { return p.Kernel.Envs[env].Rights }).inGroup("environments", false))
	}
	for slot := range 16 {
		all = append(all, pagerPartOf("place "+strconv.Itoa(slot), -77, func(p impl.Pager) []int { return p.Swap[slot] }).inGroup("swap", false))
	}
	return append(all,
		pagerPartOf("the memory", []int{-77}, func(p impl.Pager) [][]int { return p.Kernel.Memory }).inGroup("memory", true),
		pagerPartOf("the environments", impl.Env{Root: -77}, func(p impl.Pager) []impl.Env { return p.Kernel.Envs }).inGroup("environments", true),
		pagerPartOf("the swap", []int{-77}, func(p impl.Pager) [][]int { return p.Swap }).inGroup("swap", true),
		pagerPartOf("the list", spoiledInfo, func(p impl.Pager) []impl.Info { return p.Kernel.Infos }),
		pagerPartOf("the cache", spoiled, func(p impl.Pager) []impl.Cached { return p.Kernel.Cache }),
		pagerPartOf("the lower tables", -77, func(p impl.Pager) []int { return p.Low }),
		pagerPartOf("the pages", impl.Page{Where: -77, At: -77, Used: true}, func(p impl.Pager) []impl.Page { return p.Pages }))
}

// roomyPager is a pager with room behind each of its lists, which holds what does not count; and all that it lies in.
func roomyPager(start impl.Pager) (impl.Pager, func() string) {
	k, look := roomyKernel(start.Kernel)
	pages := append(slices.Clone(start.Pages), framed(5, true), swapped(0), impl.Page{})[:len(start.Pages)]
	p := impl.Pager{Kernel: k, Swap: roomySwap(start.Swap), Low: roomyList(start.Low), Pages: pages, Hand: start.Hand, Limit: start.Limit}
	low := p.Low
	places := p.Swap
	return p, func() string {
		return fmt.Sprint(look(), wholeSwap(places), low[:cap(low)], pages[:cap(pages)])
	}
}

// pagerChange is a function that makes a pager of another one, with all its arguments but the pager.
type pagerChange struct {
	name string
	do   func(p impl.Pager) impl.Pager
}

// pagerChanges touch, load and store; among them are those that fail.
func pagerChanges() []pagerChange {
	all := []pagerChange{}
	for _, number := range []int{-1, 0, 1, 3, 6, 9, 15, 16} {
		all = append(all, pagerChange{"PagerTouch of " + strconv.Itoa(number), func(p impl.Pager) impl.Pager {
			got, _ := impl.PagerTouch(p, number)
			return got
		}}, pagerChange{"PagerLoad of " + strconv.Itoa(4*number), func(p impl.Pager) impl.Pager {
			got, _, _ := impl.PagerLoad(p, 4*number)
			return got
		}}, pagerChange{"PagerStore at " + strconv.Itoa(4*number+3), func(p impl.Pager) impl.Pager {
			got, _ := impl.PagerStore(p, 4*number+3, 1234)
			return got
		}})
	}
	return append(all, pagerChange{"PagerStore of no word", func(p impl.Pager) impl.Pager {
		got, _ := impl.PagerStore(p, 0, 10000)
		return got
	}})
}

// pagersToChange have pages in frames, in the swap and never used, at the limit and below it; some can bring no page, and some are returned unchanged.
func pagersToChange() []impl.Pager {
	return []impl.Pager{
		writtenPager(),
		changedPager(writtenPager(), func(p *impl.Pager) { p.Limit = 2 }),
		freshPager(1),
		withTaken(freshPager(6), 7, 2),
		withTaken(drawnPager(3, 7, "ssssssssssssssss", 1), 7, 2),
		busyPager(3, "fuu.ssssssssssss", 5),
		drawnPager(6, 2, "uuuuuus.s.s.s.s.", 3),
	}
}

// invalidPagersToChange are some of each kind.
func invalidPagersToChange() []impl.Pager {
	all := []impl.Pager{{}}
	for i, x := range allFaults() {
		if i%5 == 0 {
			all = append(all, changedPager(writtenPager(), x.change))
		}
	}
	return all
}

// P109 to P121: no function changes a pager, or what lies behind its lists, and none reads that.
func TestPagersAreLeft(t *testing.T) {
	for _, start := range slices.Concat(pagersToChange(), invalidPagersToChange(), busyPagers()[:20]) {
		p, look := roomyPager(start)
		before := look()
		if got, want := impl.PagerValid(p), impl.PagerValid(start); got != want {
			t.Errorf("PagerValid(%s) is %t, with room behind it, and otherwise %t", short(start), got, want)
		}
		for address := -1; address <= 64; address++ {
			if got, want := impl.PagerWord(p, address), impl.PagerWord(start, address); got != want {
				t.Errorf("PagerWord(%s, %d) is %d, with room behind it, and otherwise %d", short(start), address, got, want)
			}
		}
		for _, x := range pagerChanges() {
			if got, want := x.do(p), x.do(start); !samePager(got, want) {
				t.Errorf("%s: of %s is %s, with room behind it, and otherwise %s", x.name, short(start), short(got), short(want))
			}
			if look() != before {
				t.Fatalf("%s changes %s to %s", x.name, before, look())
			}
		}
	}
}

// checkPartsApart expects that all parts of a pager that lie apart from one are as they were.
func checkPartsApart(t *testing.T, x pagerPart, p impl.Pager, want impl.Pager) {
	t.Helper()
	for _, y := range pagerParts() {
		if x.isApart(y) && y.read(p) != y.read(want) {
			t.Errorf("a change of %s changes %s to %s", x.name, y.name, y.read(p))
		}
	}
}

// checkPagerApart writes to each part of a result, and of an argument, and expects that the other one, another result, and the other parts remain as they were.
func checkPagerApart(t *testing.T, start impl.Pager, do func(p impl.Pager) impl.Pager) {
	t.Helper()
	want := pagerCopy(do(start))
	if isZeroPager(want) {
		return
	}
	for _, x := range pagerParts() {
		for _, write := range []func(impl.Pager){x.more, x.spoil} {
			p, look := roomyPager(start)
			before := look()
			one, two := do(p), do(p)
			write(one)
			if look() != before {
				t.Fatalf("a change of %s of the result changes %s to %s", x.name, before, look())
			}
			if !samePager(two, want) {
				t.Fatalf("a change of %s of a result changes another one to %s", x.name, short(two))
			}
			checkPartsApart(t, x, one, want)
			write(p)
			if !samePager(two, want) {
				t.Fatalf("a change of %s of the argument changes the result to %s", x.name, short(two))
			}
		}
	}
}

// P113 to P121: the results share nothing with the pager, with another result, or with themselves, also if the pager is returned unchanged.
func TestResultsOfPagersShareNothing(t *testing.T) {
	for i, start := range pagersToChange() {
		for j, x := range pagerChanges() {
			if (i+j)%2 == 0 || i < 2 {
				checkPagerApart(t, start, x.do)
			}
		}
	}
}

// P115, P119: where the page cannot be brought, the pager is returned unchanged, but as another one.
func TestUnchangedPagersShareNothing(t *testing.T) {
	p := withTaken(drawnPager(2, 9, "s.s.s.s.s.s.s.s.", 4), 7, 1)
	p.Kernel.Envs[1].Rights, p.Kernel.Envs[2].Rights = []string{"b", "ba"}, nil
	for _, x := range pagerChanges() {
		if got := x.do(p); !isZeroPager(got) && !samePager(got, p) {
			t.Errorf("%s changes the pager to %s", x.name, short(got))
		}
		checkPagerApart(t, p, x.do)
	}
}

// P109: no new pager shares anything with another one, nor do its parts with each other.
func TestNewPagersShareNothing(t *testing.T) {
	for limit := 1; limit <= 6; limit++ {
		checkPagerApart(t, freshPager(1), func(impl.Pager) impl.Pager {
			p, _ := impl.PagerNew(limit)
			return p
		})
	}
}

// P113, P116: the words of a page that is moved out, and those of one that comes from the swap, are in memory of their own.
func TestMovedWordsShareNothing(t *testing.T) {
	p := drawnPager(1, 0, "u..s............", 2)
	got := checkTouch(t, p, 3)
	slot := got.Pages[0].At
	words, place := got.Kernel.Memory[5], got.Swap[slot]
	if !slices.Equal(words, drawnWords(3)) || !slices.Equal(place, drawnWords(0)) {
		t.Fatalf("the words are %v and %v", words, place)
	}
	spoilList(p.Kernel.Memory[5])
	spoilList(p.Swap[p.Pages[3].At])
	if !slices.Equal(words, drawnWords(3)) || !slices.Equal(place, drawnWords(0)) {
		t.Errorf("a change of the pager changes the words to %v and %v", words, place)
	}
	next, _ := impl.PagerTouch(got, 0)
	spoilList(words)
	spoilList(place)
	if !slices.Equal(wordsIn(next)[:4], drawnWords(0)) || !slices.Equal(wordsIn(next)[12:16], drawnWords(3)) {
		t.Errorf("the words are changed to %v", wordsIn(next))
	}
}

// P113, P120: all places of the swap, or all frames, may be one and the same slice; a call changes only one of them in its result.
func TestPagersInOneSlice(t *testing.T) {
	words := []int{5, 6, 7, 8}
	p := drawnPager(2, 0, "ssssssssssssssss", 0)
	p.Swap = slices.Repeat([][]int{words}, 16)
	got := checkStore(t, checkTouch(t, p, 3), 12, 99)
	got = checkTouch(t, checkTouch(t, got, 4), 5)
	if !slices.Equal(words, []int{5, 6, 7, 8}) {
		t.Errorf("the words are changed to %v", words)
	}
	for address, word := range wordsIn(got) {
		if want := 5 + address%4; word != want && address != 12 || address == 12 && word != 99 {
			t.Errorf("the word at %d is %d", address, word)
		}
	}
	zeros := []int{0, 0, 0, 0}
	q := freshPager(2)
	for frame := 1; frame < 12; frame++ {
		q.Kernel.Memory[frame] = zeros
	}
	checkStore(t, q, 9, 99)
	if !slices.Equal(zeros, []int{0, 0, 0, 0}) {
		t.Errorf("the words are changed to %v", zeros)
	}
}

// P109 to P121: a call depends on nothing that earlier calls did.
func TestNoPagerIsKept(t *testing.T) {
	p := writtenPager()
	for range 3 {
		checkTouch(t, p, 0)
		checkStore(t, p, 36, 5)
		checkLoad(t, p, 60)
		checkNoTouch(t, p, 16)
		checkWords(t, p)
		checkWords(t, freshPager(3))
		checkNoPager(t, "the zero value", impl.Pager{})
	}
	p.Swap[2][1] = 9
	checkLoad(t, p, 37)
	p.Kernel.Memory[6][0] = 10
	checkLoad(t, p, 24)
	p.Limit = 7
	checkNoPager(t, "another limit", p)
	p.Limit, p.Hand = 2, 16
	checkNoPager(t, "another hand", p)
	p.Hand = 15
	checkTouch(t, p, 9)
	p.Swap[2] = nil
	checkNoPager(t, "a place less", p)
	p.Pages[9] = impl.Page{}
	checkWords(t, p)
	checkTouch(t, p, 9)
}
