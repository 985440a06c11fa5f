package tests

import (
	"slices"
	"testing"

	"loop.example/exopager/impl"
)

// Where a page is, is written as a number here: 0 if it was never used, 1 in a frame, and 2 in the swap.

func framed(frame int, used bool) impl.Page {
	return impl.Page{Where: 1, At: frame, Used: used}
}

func swapped(slot int) impl.Page {
	return impl.Page{Where: 2, At: slot}
}

// freshPager is a new pager, written out.
func freshPager(limit int) impl.Pager {
	k := emptyKernel()
	k.Memory[0] = []int{7, 11, 15, 19}
	k.Infos[0] = info(3, "a", 1)
	for frame := 1; frame <= 4; frame++ {
		k.Infos[frame] = info(2, "a", 1)
	}
	k.Envs = []impl.Env{{Rights: []string{"a"}, Root: 0}, {Rights: []string{"b"}, Root: -1}, {Rights: []string{"c"}, Root: -1}}
	return impl.Pager{Kernel: k, Swap: make([][]int, 16), Low: []int{1, 2, 3, 4}, Pages: make([]impl.Page, 16), Limit: limit}
}

// writtenPager has two pages in frames, of which page 6 was used lately, and two in the swap; environment 1 has two frames. It is written out.
func writtenPager() impl.Pager {
	p := freshPager(3)
	p.Kernel.Memory = [][]int{
		{7, 11, 15, 19}, {0, 0, 0, 39}, {0, 0, 27, 0}, {0, 0, 0, 0}, {0, 0, 0, 0}, {23, 0, 9, 5},
		{61, 62, 0, 9999}, {70, 71, 72, 73}, {80, 81, 82, 83}, {31, 92, 93, 94}, {100, 101, 102, 103}, {1, 2, 3, 4},
	}
	p.Kernel.Infos[5], p.Kernel.Infos[6], p.Kernel.Infos[8], p.Kernel.Infos[9] = info(1, "b", 0), info(1, "a", 1), info(1, "bc", 0), info(1, "a", 1)
	p.Kernel.Cache = []impl.Cached{{Env: 0, Page: 6, Frame: 6, Write: true}}
	p.Swap[0], p.Swap[2] = []int{5, 6, 7, 8}, []int{0, 0, 0, 0}
	p.Pages[3], p.Pages[6], p.Pages[9], p.Pages[15] = framed(9, false), framed(6, true), swapped(2), swapped(0)
	p.Hand = 5
	return p
}

func pagerCopy(p impl.Pager) impl.Pager {
	return impl.Pager{Kernel: kernelCopy(p.Kernel), Swap: copyOf(p.Swap), Low: slices.Clone(p.Low), Pages: slices.Clone(p.Pages), Hand: p.Hand, Limit: p.Limit}
}

// changedPager is a copy of the pager with some change.
func changedPager(p impl.Pager, change func(p *impl.Pager)) impl.Pager {
	other := pagerCopy(p)
	change(&other)
	return other
}

func samePager(a impl.Pager, b impl.Pager) bool {
	return sameKernel(a.Kernel, b.Kernel) && sameMemory(a.Swap, b.Swap) && slices.Equal(a.Low, b.Low) && slices.Equal(a.Pages, b.Pages) && a.Hand == b.Hand && a.Limit == b.Limit
}

func isZeroPager(p impl.Pager) bool {
	return isZeroKernel(p.Kernel) && len(p.Swap)+len(p.Low)+len(p.Pages) == 0 && p.Hand == 0 && p.Limit == 0
}

// drawnWord is another word for each address, from 0 to 9999.
func drawnWord(number int, at int) int {
	if number == 15 && at == 3 {
		return 9999
	}
	return 157 * (4*number + at)
}

func drawnWords(number int) []int {
	return []int{drawnWord(number, 0), drawnWord(number, 1), drawnWord(number, 2), drawnWord(number, 3)}
}

// drawnPager is a pager whose pages are letters: a point for a page that was never used, f for one in a frame, u for one in a frame that was used lately, and s for one in the
// swap. Which frames and places they have depends on the number. Free frames have words, too.
func drawnPager(limit int, hand int, text string, number int) impl.Pager {
	p := freshPager(limit)
	p.Hand = hand
	for frame := 5; frame <= 11; frame++ {
		p.Kernel.Memory[frame] = []int{3, 9000 + frame, 4*frame + 3, 9999}
	}
	frame, slot := number%7, number%16
	for n, letter := range text {
		switch letter {
		case 'f', 'u':
			p.Pages[n] = framed(5+frame, letter == 'u')
			p.Kernel.Memory[5+frame], p.Kernel.Infos[5+frame] = drawnWords(n), info(1, "a", 1)
			p.Kernel.Memory[p.Low[n/4]][n%4] = writeEntries[5+frame]
			frame = (frame + 1 + number%6) % 7
		case 's':
			p.Pages[n], p.Swap[slot] = swapped(slot), drawnWords(n)
			slot = (slot + 1 + 2*(number%8)) % 16
		}
	}
	return p
}

// withTaken is the pager in whose kernel others have so many frames more. Which ones depends on the number.
func withTaken(p impl.Pager, many int, number int) impl.Pager {
	return changedPager(p, func(p *impl.Pager) {
		free := freeFrames(p.Kernel)
		for i := range min(many, len(free)) {
			frame := free[(number+i)%len(free)]
			p.Kernel.Infos[frame], p.Kernel.Memory[frame] = info(1, []string{"b", "cc", "ab", ""}[i%4], 0), []int{23, 5000 + frame, 0, 47}
		}
	})
}

func freeFrames(k impl.Kernel) []int {
	return framesWhere(func(frame int) bool { return k.Infos[frame].Kind == 0 })
}

// turnedPager is the pager whose frames lie some frames farther on, in a circle, as those of turnedKernel. Data that looks like entries becomes other data by that.
func turnedPager(p impl.Pager, by int) impl.Pager {
	other := pagerCopy(p)
	other.Kernel = turnedKernel(p.Kernel, by)
	for i, frame := range p.Low {
		other.Low[i] = (frame + by) % 12
	}
	for n, x := range p.Pages {
		if x.Where == 1 {
			other.Pages[n].At = (x.At + by) % 12
		}
	}
	return other
}

// drawings have no page in a frame, one, several, and as many as there may be; of those, none, some and all were used lately.
func drawings() []string {
	return []string{
		"................", "ssssssssssssssss", "s..s..s..s..s..s",
		"f...............", "u...............", "...............f", "...............u", "sssssssfssssssss", "ssssssssussssss.",
		"fu..............", "uf.s............", "u..............u", "s.f..ss...u.ss..",
		"fff.sss.........", "..u..s..u..s..u.", "fuf..s........s.",
		"uuuu............", "s.fu.s.s.s.uf.s.", "sf.sf.sf.sf.s.s.",
		"fuuf.........fs.", "f...u...f...u..f", "uuuuusssssssssss", ".u.u.u.u.u......",
		"ffffff..........", "ssssssssssuuuuuu", "..ssffuuss..ffss", "u..f..u..f..u..f", "fs.us.fs.us.fsu.",
	}
}

// limitOf is the smallest limit of a drawing.
func limitOf(text string) int {
	many := 0
	for _, letter := range text {
		if letter == 'f' || letter == 'u' {
			many++
		}
	}
	return max(many, 1)
}

// drawnPagers have each drawing with each limit that it may have, the hand at several pages, and frames that others have: none, some, and all that there are.
func drawnPagers() []impl.Pager {
	all := []impl.Pager{}
	for i, text := range drawings() {
		for limit := limitOf(text); limit <= 6; limit++ {
			p := drawnPager(limit, (5*i+7*limit)%16, text, 3*i+limit)
			all = append(all, p, withTaken(p, 7, i), withTaken(p, (i+limit)%6, i))
		}
	}
	return all
}

// validPagers are those that are written out, with frames in each place, new ones, and drawn ones.
func validPagers() []impl.Pager {
	all := []impl.Pager{}
	for by := range 12 {
		all = append(all, turnedPager(writtenPager(), by))
	}
	for limit := 1; limit <= 6; limit++ {
		all = append(all, freshPager(limit))
	}
	return append(all, drawnPagers()...)
}

// pagesWhere are the pages for which a condition holds, in ascending order.
func pagesWhere(p impl.Pager, holds func(x impl.Page) bool) []int {
	list := []int{}
	for n, x := range p.Pages {
		if holds(x) {
			list = append(list, n)
		}
	}
	return list
}

func inFrames(p impl.Pager) []int {
	return pagesWhere(p, func(x impl.Page) bool { return x.Where == 1 })
}

// pagerHolds tells whether a pager is valid.
func pagerHolds(p impl.Pager) bool {
	if !kernelHolds(p.Kernel) || !impl.SwapValid(p.Swap) || len(p.Low) != 4 || len(p.Pages) != 16 {
		return false
	}
	for env, e := range p.Kernel.Envs {
		if mayBy(e.Rights, "a") != (env == 0) {
			return false
		}
	}
	root := p.Kernel.Envs[0].Root
	if root == -1 || !isOwn(p.Kernel, 3, root) {
		return false
	}
	for i, frame := range p.Low {
		if !leadsTo(p.Kernel, 2, p.Kernel.Memory[root][i], frame) {
			return false
		}
	}
	places := []int{}
	for n, x := range p.Pages {
		if !pageHolds(p, n) {
			return false
		}
		if x.Where == 2 {
			places = append(places, x.At)
		}
	}
	slices.Sort(places)
	full := []int{}
	for slot, words := range p.Swap {
		if len(words) > 0 {
			full = append(full, slot)
		}
	}
	return slices.Equal(places, full) && within(p.Hand, 16) && p.Limit > 0 && p.Limit < 7 && len(inFrames(p)) <= p.Limit
}

func isOwn(k impl.Kernel, kind int, frame int) bool {
	return k.Infos[frame] == info(kind, "a", 1)
}

func leadsTo(k impl.Kernel, kind int, word int, frame int) bool {
	other, write, ok := named(word)
	return ok && write && other == frame && isOwn(k, kind, frame)
}

func pageHolds(p impl.Pager, number int) bool {
	x, word := p.Pages[number], p.Kernel.Memory[p.Low[number/4]][number%4]
	switch x.Where {
	case 0:
		return x == impl.Page{} && word == 0
	case 1:
		return leadsTo(p.Kernel, 1, word, x.At)
	case 2:
		return within(x.At, 16) && len(p.Swap[x.At]) > 0 && !x.Used && word == 0
	}
	return false
}

// wordIn is the word at an address of a valid pager.
func wordIn(p impl.Pager, address int) int {
	switch x := p.Pages[address/4]; x.Where {
	case 1:
		return p.Kernel.Memory[x.At][address%4]
	case 2:
		return p.Swap[x.At][address%4]
	}
	return 0
}

func wordsIn(p impl.Pager) []int {
	list := []int{}
	for address := range 64 {
		list = append(list, wordIn(p, address))
	}
	return list
}

// leaving tells which page is moved out, and which pages become not used by that; there is a page in a frame. It does not go round twice as the program does: if all pages in
// frames were used lately, all pages become not used, and the first one in a frame goes.
func leaving(p impl.Pager) (int, []int) {
	ring := []int{}
	for i := range 16 {
		ring = append(ring, (p.Hand+i)%16)
	}
	isUnused := func(n int) bool { return p.Pages[n].Where == 1 && !p.Pages[n].Used }
	if at := slices.IndexFunc(ring, isUnused); at >= 0 {
		return ring[at], ring[:at]
	}
	return ring[slices.IndexFunc(ring, func(n int) bool { return p.Pages[n].Where == 1 })], ring
}

// movedOut is the pager without one of its pages in frames.
func movedOut(p impl.Pager) impl.Pager {
	number, passed := leaving(p)
	return changedPager(p, func(p *impl.Pager) {
		for _, n := range passed {
			p.Pages[n].Used = false
		}
		slot, frame := freeSlot(p.Swap), p.Pages[number].At
		p.Swap[slot] = slices.Clone(p.Kernel.Memory[frame])
		p.Pages[number] = swapped(slot)
		p.Hand = []int{1, 2, 3, 4, 5, 6, 7, 8, 9, 10, 11, 12, 13, 14, 15, 0}[number]
		p.Kernel.Memory[p.Low[number/4]][number%4] = 0
		p.Kernel.Infos[frame] = impl.Info{}
		p.Kernel.Cache = ofOthers(p.Kernel.Cache, 0)
	})
}

// movedIn is the pager with a page in the first free frame.
func movedIn(p impl.Pager, number int) impl.Pager {
	return changedPager(p, func(p *impl.Pager) {
		frame, words := freeFrames(p.Kernel)[0], make([]int, 4)
		if x := p.Pages[number]; x.Where == 2 {
			words, p.Swap[x.At] = p.Swap[x.At], nil
		}
		p.Kernel.Memory[frame], p.Kernel.Infos[frame] = words, info(1, "a", 1)
		p.Kernel.Memory[p.Low[number/4]][number%4] = writeEntries[frame]
		p.Kernel.Cache = ofOthers(p.Kernel.Cache, 0)
		p.Pages[number] = framed(frame, true)
	})
}

// brought is what PagerTouch returns for a valid pager and a page, as the document tells.
func brought(p impl.Pager, number int) (impl.Pager, bool) {
	many := len(inFrames(p))
	none := len(freeFrames(p.Kernel)) == 0
	switch {
	case p.Pages[number].Where == 1:
		return changedPager(p, func(p *impl.Pager) { p.Pages[number].Used = true }), true
	case none && many == 0:
		return p, false
	case none || many == p.Limit:
		return movedIn(movedOut(p), number), true
	}
	return movedIn(p, number), true
}

// reached is the pager in which an address was read: the page is in a frame, and its translation in the cache.
func reached(p impl.Pager, address int) (impl.Pager, bool) {
	next, ok := brought(p, address/4)
	if ok && !hasPage(next.Kernel.Cache, 0, address/4) {
		next.Kernel.Cache = putInto(next.Kernel.Cache, impl.Cached{Env: 0, Page: address / 4, Frame: next.Pages[address/4].At, Write: true})
	}
	return next, ok
}

func checkPager(t *testing.T, p impl.Pager, want bool) {
	t.Helper()
	if got := impl.PagerValid(p); got != want {
		t.Errorf("PagerValid(%s) is %t", short(p), got)
	}
}

// checkWords looks at each address, and just beside them.
func checkWords(t *testing.T, p impl.Pager) {
	t.Helper()
	for address, word := range wordsIn(p) {
		if got := impl.PagerWord(p, address); got != word {
			t.Errorf("PagerWord(%s, %d) is %d, not %d", short(p), address, got, word)
		}
	}
	for _, address := range []int{-1, 64} {
		if got := impl.PagerWord(p, address); got != -1 {
			t.Errorf("PagerWord(%s, %d) is %d", short(p), address, got)
		}
	}
}

// checkTouch expects what the document tells of a page, and returns the pager.
func checkTouch(t *testing.T, p impl.Pager, number int) impl.Pager {
	t.Helper()
	want, ok := brought(p, number)
	got, fine := impl.PagerTouch(p, number)
	if !samePager(got, want) || fine != ok {
		t.Errorf("PagerTouch(%v, %d) is %v, %t, not %v, %t", p, number, got, fine, want, ok)
	}
	if !pagerHolds(got) {
		t.Errorf("PagerTouch(%v, %d) is invalid", p, number)
	}
	return got
}

func checkLoad(t *testing.T, p impl.Pager, address int) impl.Pager {
	t.Helper()
	want, ok := reached(p, address)
	word := 0
	if ok {
		word = wordIn(p, address)
	}
	got, read, fine := impl.PagerLoad(p, address)
	if !samePager(got, want) || read != word || fine != ok {
		t.Errorf("PagerLoad(%v, %d) is %v, %d, %t, not %v, %d, %t", p, address, got, read, fine, want, word, ok)
	}
	if !pagerHolds(got) {
		t.Errorf("PagerLoad(%v, %d) is invalid", p, address)
	}
	return got
}

func checkStore(t *testing.T, p impl.Pager, address int, word int) impl.Pager {
	t.Helper()
	want, ok := reached(p, address)
	if ok {
		want.Kernel.Memory[want.Pages[address/4].At][address%4] = word
	}
	got, fine := impl.PagerStore(p, address, word)
	if !samePager(got, want) || fine != ok {
		t.Errorf("PagerStore(%v, %d, %d) is %v, %t, not %v, %t", p, address, word, got, fine, want, ok)
	}
	if !pagerHolds(got) {
		t.Errorf("PagerStore(%v, %d, %d) is invalid", p, address, word)
	}
	return got
}

// checkNoTouch, checkNoLoad and checkNoStore expect that an argument is invalid.
func checkNoTouch(t *testing.T, p impl.Pager, number int) {
	t.Helper()
	if got, ok := impl.PagerTouch(p, number); ok || !isZeroPager(got) {
		t.Errorf("PagerTouch(%s, %d) is %s, %t", short(p), number, short(got), ok)
	}
}

func checkNoLoad(t *testing.T, p impl.Pager, address int) {
	t.Helper()
	if got, word, ok := impl.PagerLoad(p, address); ok || word != 0 || !isZeroPager(got) {
		t.Errorf("PagerLoad(%s, %d) is %s, %d, %t", short(p), address, short(got), word, ok)
	}
}

func checkNoStore(t *testing.T, p impl.Pager, address int, word int) {
	t.Helper()
	if got, ok := impl.PagerStore(p, address, word); ok || !isZeroPager(got) {
		t.Errorf("PagerStore(%s, %d, %d) is %s, %t", short(p), address, word, short(got), ok)
	}
}
