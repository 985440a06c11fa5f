package tests

import (
	"slices"
	"strconv"
	"testing"

	"loop.example/exopager/impl"
)

// pagerFault breaks one rule of a pager like writtenPager, whatever its frames are: page 3 is in a frame, page 6 is, too, and was used lately, and the pages 9 and 15 are in
// the swap. It tells whether the kernel and the swap are valid with it, so that something else is wrong.
type pagerFault struct {
	name   string
	alone  bool
	change func(p *impl.Pager)
}

// entryOfPage is where the word of a page is.
func entryOfPage(p *impl.Pager, number int) *int {
	return &p.Kernel.Memory[p.Low[number/4]][number%4]
}

// mend counts all uses again, and forgets all translations, so that the kernel is valid if its tables are.
func mend(p *impl.Pager) {
	p.Kernel = recounted(withCache(p.Kernel))
}

// addFrame takes a free frame for environment 0, and returns it.
func addFrame(p *impl.Pager, kind int, words ...int) int {
	frame := freeFrames(p.Kernel)[0]
	p.Kernel.Infos[frame], p.Kernel.Memory[frame] = info(kind, "a", 0), append(words, 0, 0, 0, 0)[:4]
	return frame
}

// guardFaults give a frame another right, which environment 0 has.
func guardFaults(name string, frameOf func(p *impl.Pager) int) []pagerFault {
	all := []pagerFault{}
	for _, guard := range []string{"", "aa", "ab", "aaaa", "b", "cc"} {
		all = append(all, pagerFault{name + " under the right " + strconv.Quote(guard), true, func(p *impl.Pager) {
			p.Kernel.Envs[0].Rights = []string{"", "a"}
			p.Kernel.Infos[frameOf(p)].Guard = guard
		}})
	}
	return all
}

func kernelFaults() []pagerFault {
	all := []pagerFault{
		{"the zero value of a kernel", false, func(p *impl.Pager) { p.Kernel = impl.Kernel{} }},
		{"an old translation", false, func(p *impl.Pager) { p.Kernel.Cache[0].Write = false }},
		{"a translation of a page in the swap", false, func(p *impl.Pager) { p.Kernel.Cache[0].Page = 9 }},
		{"a translation of a page that was never used", false, func(p *impl.Pager) { p.Kernel.Cache[0].Page = 0 }},
		{"a translation twice", false, func(p *impl.Pager) { p.Kernel.Cache = slices.Repeat(p.Kernel.Cache, 2) }},
		{"no memory", false, func(p *impl.Pager) { p.Kernel.Memory = nil }},
		{"no list", false, func(p *impl.Pager) { p.Kernel.Infos = nil }},
		{"no environments", false, func(p *impl.Pager) { p.Kernel.Envs = nil }},
		{"two environments", false, func(p *impl.Pager) { p.Kernel.Envs = p.Kernel.Envs[:2] }},
		{"a frame less", false, func(p *impl.Pager) { p.Kernel.Memory = p.Kernel.Memory[:11] }},
		{"invalid rights", false, func(p *impl.Pager) { p.Kernel.Envs[2].Rights = []string{"d"} }},
		{"a root that does not exist", false, func(p *impl.Pager) { p.Kernel.Envs[1].Root = 12 }},
	}
	for frame := range 12 {
		at := " of frame " + strconv.Itoa(frame)
		all = append(all,
			pagerFault{"more uses" + at, false, func(p *impl.Pager) { p.Kernel.Infos[frame].Refs++ }},
			pagerFault{"a kind" + at, false, func(p *impl.Pager) { p.Kernel.Infos[frame].Kind = 4 }},
			pagerFault{"a word" + at, false, func(p *impl.Pager) { p.Kernel.Memory[frame][frame%4] = 10000 }})
	}
	return all
}

func swapFaults() []pagerFault {
	all := []pagerFault{
		{"no swap", false, func(p *impl.Pager) { p.Swap = nil }},
		{"a place less", false, func(p *impl.Pager) { p.Swap = p.Swap[:15] }},
		{"a place more", false, func(p *impl.Pager) { p.Swap = append(p.Swap, nil) }},
	}
	for slot := range 16 {
		name := "at place " + strconv.Itoa(slot) + ", "
		for _, words := range [][]int{{5}, {1, 2, 3}, {1, 2, 3, 4, 5}, {-1, 2, 3, 4}, {1, 2, 3, 10000}} {
			all = append(all, pagerFault{name + short(words), false, func(p *impl.Pager) { p.Swap[slot] = words }})
		}
		if slot != 0 && slot != 2 {
			all = append(all, pagerFault{name + "words of no page", true, func(p *impl.Pager) { p.Swap[slot] = []int{0, 0, 0, 0} }})
		} else {
			all = append(all, pagerFault{name + "no words", true, func(p *impl.Pager) { p.Swap[slot] = []int{} }})
		}
	}
	return all
}

func rightsFaults() []pagerFault {
	all := []pagerFault{}
	for _, rights := range [][]string{nil, {"aa"}, {"aa", "ab", "ac"}, {"aaaa"}, {"b", "c"}} {
		all = append(all, pagerFault{"environment 0 without the right", false, func(p *impl.Pager) { p.Kernel.Envs[0].Rights = rights }},
			pagerFault{"environment 0 without the right and without tables", true, func(p *impl.Pager) {
				p.Kernel.Envs[0] = impl.Env{Rights: rights, Root: -1}
				mend(p)
			}})
	}
	for env := 1; env <= 2; env++ {
		for _, rights := range [][]string{{"a"}, {""}, {"a", "b"}, {"", "aa"}, {"a", "aa", "ab", "ac", "b", "c"}, {"", "a", "b", "c"}} {
			all = append(all, pagerFault{short(rights) + " of environment " + strconv.Itoa(env), true, func(p *impl.Pager) { p.Kernel.Envs[env].Rights = rights }})
		}
	}
	return append(all, pagerFault{"the right of all environments", true, func(p *impl.Pager) { p.Kernel.Envs[1].Rights, p.Kernel.Envs[2].Rights = []string{"a"}, []string{""} }})
}

func rootFaults() []pagerFault {
	all := []pagerFault{
		{"no upper table", true, func(p *impl.Pager) { p.Kernel.Envs[0].Root = -1; mend(p) }},
		{"an upper table without entries", true, func(p *impl.Pager) { p.Kernel.Envs[0].Root = addFrame(p, 3); mend(p) }},
		{"another upper table with the same entries", true, func(p *impl.Pager) {
			p.Kernel.Envs[0].Root = addFrame(p, 3, p.Kernel.Memory[p.Kernel.Envs[0].Root]...)
			mend(p)
		}},
		{"a lower table as an upper table", false, func(p *impl.Pager) { p.Kernel.Envs[0].Root = p.Low[0]; mend(p) }},
		{"an upper table of two environments", true, func(p *impl.Pager) {
			p.Kernel.Envs[2] = impl.Env{Rights: []string{"a"}, Root: p.Kernel.Envs[0].Root}
			mend(p)
		}},
	}
	for i := range 4 {
		name := " at word " + strconv.Itoa(i)
		all = append(all,
			pagerFault{"an entry that may only be read" + name, true, func(p *impl.Pager) {
				p.Kernel.Memory[p.Kernel.Envs[0].Root][i] = readEntries[p.Low[i]]
				mend(p)
			}},
			pagerFault{"no entry" + name, true, func(p *impl.Pager) { p.Kernel.Memory[p.Kernel.Envs[0].Root][i] = 0; mend(p) }},
			pagerFault{"another lower table" + name, true, func(p *impl.Pager) {
				p.Kernel.Memory[p.Kernel.Envs[0].Root][i] = writeEntries[addFrame(p, 2)]
				mend(p)
			}},
			pagerFault{"a lower table twice" + name, true, func(p *impl.Pager) {
				words := p.Kernel.Memory[p.Kernel.Envs[0].Root]
				words[i], p.Low[i] = words[(i+1)%4], p.Low[(i+1)%4]
				mend(p)
			}},
			pagerFault{"a further use" + name, true, func(p *impl.Pager) { addFrame(p, 3, 0, writeEntries[p.Low[i]]); mend(p) }})
		all = append(all, guardFaults("the lower table"+name, func(p *impl.Pager) int { return p.Low[i] })...)
	}
	return append(all, guardFaults("the upper table", func(p *impl.Pager) int { return p.Kernel.Envs[0].Root })...)
}

func lowFaults() []pagerFault {
	all := []pagerFault{
		{"no lower tables", true, func(p *impl.Pager) { p.Low = nil }},
		{"three lower tables", true, func(p *impl.Pager) { p.Low = p.Low[:3] }},
		{"the last three lower tables", true, func(p *impl.Pager) { p.Low = p.Low[1:] }},
		{"five lower tables", true, func(p *impl.Pager) { p.Low = append(p.Low, p.Low[0]) }},
		{"a fifth lower table that is there", true, func(p *impl.Pager) { p.Low = append(p.Low, addFrame(p, 2)) }},
	}
	for i, order := range permutations([]int{0, 1, 2, 3}) {
		if !slices.IsSorted(order) {
			all = append(all, pagerFault{"lower tables in the order " + strconv.Itoa(i), true, func(p *impl.Pager) {
				p.Low = []int{p.Low[order[0]], p.Low[order[1]], p.Low[order[2]], p.Low[order[3]]}
			}})
		}
	}
	for i := range 4 {
		for j := range 4 {
			if i != j {
				all = append(all, pagerFault{"a lower table twice", true, func(p *impl.Pager) { p.Low[i] = p.Low[j] }})
			}
		}
		for _, frame := range append(badWords(), 12, 13, 16) {
			all = append(all, pagerFault{"the lower table " + strconv.Itoa(frame), true, func(p *impl.Pager) { p.Low[i] = frame }})
		}
		all = append(all,
			pagerFault{"the upper table as a lower table", true, func(p *impl.Pager) { p.Low[i] = p.Kernel.Envs[0].Root }},
			pagerFault{"a lower table that is not named", true, func(p *impl.Pager) { p.Low[i] = addFrame(p, 2) }},
			pagerFault{"a frame of a page as a lower table", true, func(p *impl.Pager) { p.Low[i] = p.Pages[3].At }})
	}
	return all
}

// pageNumberFaults have too few and too many pages.
func pageNumberFaults() []pagerFault {
	all := []pagerFault{{"no pages", true, func(p *impl.Pager) { p.Pages = nil }}}
	for _, many := range []int{1, 4, 15, 17, 20, 32, 256, 272} {
		all = append(all, pagerFault{strconv.Itoa(many) + " pages", true, func(p *impl.Pager) {
			p.Pages = append(p.Pages, make([]impl.Page, 300)...)[:many]
		}})
	}
	return append(all,
		pagerFault{"without the last page and its place", true, func(p *impl.Pager) { p.Pages, p.Swap[0] = p.Pages[:15], nil }},
		pagerFault{"with a page in front", true, func(p *impl.Pager) { p.Pages = slices.Insert(p.Pages, 0, impl.Page{}) }},
		pagerFault{"without the first page", true, func(p *impl.Pager) { p.Pages = p.Pages[1:] }})
}

// unusedFaults are those of pages that were never used.
func unusedFaults() []pagerFault {
	all := []pagerFault{}
	for _, n := range []int{0, 2, 4, 7, 8, 11, 14} {
		name := "the unused page " + strconv.Itoa(n) + " with "
		for _, at := range append(badWords(), 1, 2, 6, 11, 12, 15, 16) {
			all = append(all, pagerFault{name + "a place " + strconv.Itoa(at), true, func(p *impl.Pager) { p.Pages[n].At = at }})
		}
		for _, where := range append(badWords(), 3, 4, 257) {
			all = append(all, pagerFault{name + "the kind " + strconv.Itoa(where), true, func(p *impl.Pager) { p.Pages[n].Where = where }})
		}
		all = append(all,
			pagerFault{name + "a use", true, func(p *impl.Pager) { p.Pages[n].Used = true }},
			pagerFault{name + "an entry", true, func(p *impl.Pager) { *entryOfPage(p, n) = writeEntries[addFrame(p, 1)]; mend(p) }},
			pagerFault{name + "an entry to be read", true, func(p *impl.Pager) { *entryOfPage(p, n) = readEntries[addFrame(p, 1)]; mend(p) }},
			pagerFault{name + "the kind of a frame", true, func(p *impl.Pager) { p.Pages[n] = framed(freeFrames(p.Kernel)[0], false) }},
			pagerFault{name + "the kind of a place", true, func(p *impl.Pager) { p.Pages[n] = swapped(1) }},
			pagerFault{name + "a place of another page", true, func(p *impl.Pager) { p.Pages[n] = swapped(0) }},
			pagerFault{name + "a frame of another page", true, func(p *impl.Pager) {
				p.Pages[n], *entryOfPage(p, n) = p.Pages[3], *entryOfPage(p, 3)
				mend(p)
			}})
	}
	return all
}

// framedFaults are those of pages in frames.
func framedFaults() []pagerFault {
	all := []pagerFault{{"frames that are exchanged", true, func(p *impl.Pager) { p.Pages[3].At, p.Pages[6].At = p.Pages[6].At, p.Pages[3].At }}}
	for _, n := range []int{3, 6} {
		name := "page " + strconv.Itoa(n) + " in a frame with "
		for _, at := range append(badWords(), 12, 13, 18, 16) {
			all = append(all, pagerFault{name + "the frame " + strconv.Itoa(at), true, func(p *impl.Pager) { p.Pages[n].At = at }})
		}
		for _, where := range append(badWords(), 0, 2, 3, 5, 257, 1<<32+1) {
			all = append(all, pagerFault{name + "the kind " + strconv.Itoa(where), true, func(p *impl.Pager) { p.Pages[n].Where = where }})
		}
		all = append(all, guardFaults(name, func(p *impl.Pager) int { return p.Pages[n].At })...)
		all = append(all,
			pagerFault{name + "the frame of the other page", true, func(p *impl.Pager) { p.Pages[n].At = p.Pages[9-n].At }},
			pagerFault{name + "the frame of a table", true, func(p *impl.Pager) { p.Pages[n].At = p.Low[n/4] }},
			pagerFault{name + "a free frame", true, func(p *impl.Pager) { p.Pages[n].At = freeFrames(p.Kernel)[0] }},
			pagerFault{name + "another frame under the same right", true, func(p *impl.Pager) { p.Pages[n].At = addFrame(p, 1) }},
			pagerFault{name + "a word that names another frame", true, func(p *impl.Pager) { *entryOfPage(p, n) = writeEntries[addFrame(p, 1)]; mend(p) }},
			pagerFault{name + "a word that may only be read", true, func(p *impl.Pager) { *entryOfPage(p, n) = readEntries[p.Pages[n].At]; mend(p) }},
			pagerFault{name + "no entry", true, func(p *impl.Pager) { *entryOfPage(p, n) = 0; mend(p) }},
			pagerFault{name + "no entry, and a frame that is not used", true, func(p *impl.Pager) { *entryOfPage(p, n), p.Pages[n].At = 0, 0; mend(p) }},
			pagerFault{name + "another use", true, func(p *impl.Pager) { addFrame(p, 2, 0, 0, readEntries[p.Pages[n].At]); mend(p) }},
			pagerFault{name + "a use by the table itself", true, func(p *impl.Pager) { *entryOfPage(p, n/4*4) = readEntries[p.Pages[n].At]; mend(p) }})
	}
	return all
}

// swappedFaults are those of pages in the swap.
func swappedFaults() []pagerFault {
	all := []pagerFault{
		{"two pages at one place, and a place of no page", true, func(p *impl.Pager) { p.Pages[9].At = 0 }},
		{"two pages at one place", true, func(p *impl.Pager) { p.Pages[9].At, p.Swap[2] = 0, nil }},
		{"two pages at the other place", true, func(p *impl.Pager) { p.Pages[15].At, p.Swap[0] = 2, nil }},
		{"no places", true, func(p *impl.Pager) { p.Swap = make([][]int, 16) }},
	}
	for _, n := range []int{9, 15} {
		name := "page " + strconv.Itoa(n) + " in the swap with "
		for _, at := range append(badWords(), 1, 3, 15, 16, 17, 18, 32) {
			all = append(all, pagerFault{name + "the place " + strconv.Itoa(at), true, func(p *impl.Pager) { p.Pages[n].At = at }})
		}
		for _, where := range append(badWords(), 1, 3, 4, 6, 258, 1<<32+2) {
			all = append(all, pagerFault{name + "the kind " + strconv.Itoa(where), true, func(p *impl.Pager) { p.Pages[n].Where = where }})
		}
		all = append(all,
			pagerFault{name + "a use", true, func(p *impl.Pager) { p.Pages[n].Used = true }},
			pagerFault{name + "no words", true, func(p *impl.Pager) { p.Swap[p.Pages[n].At] = nil }},
			pagerFault{name + "an entry", true, func(p *impl.Pager) { *entryOfPage(p, n) = writeEntries[addFrame(p, 1)]; mend(p) }},
			pagerFault{name + "an entry to be read", true, func(p *impl.Pager) { *entryOfPage(p, n) = readEntries[addFrame(p, 1)]; mend(p) }},
			pagerFault{name + "a frame, too", true, func(p *impl.Pager) {
				p.Pages[n] = framed(addFrame(p, 1), false)
				*entryOfPage(p, n) = writeEntries[p.Pages[n].At]
				mend(p)
			}},
			pagerFault{name + "no page", true, func(p *impl.Pager) { p.Pages[n] = impl.Page{} }})
	}
	return all
}

func boundFaults() []pagerFault {
	all := []pagerFault{{"more pages in frames than the limit", true, func(p *impl.Pager) { p.Limit = 1 }}}
	for _, hand := range append(badWords(), 16, 17, 32, 1<<32+1) {
		all = append(all, pagerFault{"the hand " + strconv.Itoa(hand), true, func(p *impl.Pager) { p.Hand = hand }})
	}
	for _, limit := range append(badWords(), 0, 7, 8, 16, 1<<32+3) {
		all = append(all, pagerFault{"the limit " + strconv.Itoa(limit), true, func(p *impl.Pager) { p.Limit = limit }})
	}
	return all
}

func allFaults() []pagerFault {
	return slices.Concat(kernelFaults(), swapFaults(), rightsFaults(), rootFaults(), lowFaults(), pageNumberFaults(), unusedFaults(), framedFaults(), swappedFaults(), boundFaults())
}

// checkNoPager expects that nothing can be done with a pager, whatever is asked for.
func checkNoPager(t *testing.T, name string, p impl.Pager) {
	t.Helper()
	checkPager(t, p, false)
	for _, number := range []int{-1, 0, 3, 6, 9, 15, 16} {
		checkNoTouch(t, p, number)
	}
	for _, address := range []int{-1, 0, 14, 27, 38, 63, 64} {
		if got := impl.PagerWord(p, address); got != -1 {
			t.Errorf("PagerWord(%v, %d) is %d", p, address, got)
		}
		checkNoLoad(t, p, address)
		for _, word := range []int{-1, 0, 9999, 10000} {
			checkNoStore(t, p, address, word)
		}
	}
	if t.Failed() {
		t.Fatalf("with %s", name)
	}
}

// P109 to P121: each rule of a pager is broken, and no other one where this is possible; the frames lie anywhere.
func TestInvalidPagers(t *testing.T) {
	for i, x := range allFaults() {
		for _, by := range []int{0, 1 + i%11} {
			start := turnedPager(writtenPager(), by)
			p := changedPager(start, x.change)
			if alone := kernelHolds(p.Kernel) && impl.SwapValid(p.Swap); alone != x.alone || pagerHolds(p) {
				t.Fatalf("%s: %v is no example, as its parts are valid or not: %t", x.name, p, alone)
			}
			checkNoPager(t, x.name, p)
			checkPager(t, start, true)
		}
	}
}

// P109 to P121: two rules are broken at once, which never makes a pager valid.
func TestPagersWithTwoFaults(t *testing.T) {
	all := slices.Concat(rightsFaults(), lowFaults()[:20], unusedFaults()[:12], framedFaults()[:12], swappedFaults()[:12], boundFaults())
	for i, x := range all {
		for j := i % 7; j < len(all); j += 7 {
			p := changedPager(writtenPager(), x.change)
			if len(p.Low) == 4 && len(p.Pages) == 16 {
				all[j].change(&p)
				checkPager(t, p, pagerHolds(p))
			}
		}
	}
}

// P110: invalid swaps of all kinds, in a pager that has no page in the swap.
func TestPagersWithInvalidSwaps(t *testing.T) {
	for i, x := range invalidSwaps() {
		p := freshPager(1 + i%6)
		p.Swap = x.s
		checkPager(t, p, false)
		if i%97 == 0 {
			checkNoPager(t, x.name, p)
		}
	}
}

// P110: valid swaps that have words where no page is.
func TestPagersWithWordsOfNoPage(t *testing.T) {
	for i, s := range validSwaps() {
		p := freshPager(1 + i%6)
		p.Swap = s
		checkPager(t, p, freeSlot(s) == 0 && !slices.ContainsFunc(s, func(words []int) bool { return len(words) > 0 }))
	}
}

// P110: nil and empty slices in each part, and the zero value.
func TestPagersOfNothing(t *testing.T) {
	checkNoPager(t, "the zero value", impl.Pager{})
	checkNoPager(t, "empty parts", impl.Pager{Kernel: emptyKernel(), Swap: [][]int{}, Low: []int{}, Pages: []impl.Page{}, Limit: 1})
	checkNoPager(t, "a kernel without tables", changedPager(freshPager(1), func(p *impl.Pager) {
		p.Kernel = emptyKernel()
		p.Kernel.Envs[0].Rights = []string{"a"}
	}))
	p := freshPager(2)
	for slot := range 16 {
		p.Swap[slot] = freePlace(slot)
	}
	p.Kernel.Cache = []impl.Cached{}
	checkPager(t, p, true)
}

// P112, P115, P119: pages and addresses that there are not, and words out of range, of pagers of which some can bring no page.
func TestPagersWithOtherArguments(t *testing.T) {
	for _, p := range []impl.Pager{writtenPager(), freshPager(1), withTaken(freshPager(1), 7, 0), drawnPager(6, 0, "uuuuuusssssssss.", 1)} {
		for _, number := range noneOf(16) {
			checkNoTouch(t, p, number)
		}
		for _, address := range noneOf(64) {
			checkNoLoad(t, p, address)
			checkNoStore(t, p, address, 5)
		}
		for _, word := range allNumbers() {
			if word < 0 || word > 9999 {
				checkNoStore(t, p, 12, word)
			}
		}
		for address := -1; address <= 64; address++ {
			for _, word := range badWords() {
				checkNoStore(t, p, address, word)
			}
		}
	}
}
