package tests

import (
	"slices"
	"strings"
	"testing"

	"loop.example/exopager/impl"
)

func TestConstantsOfPagers(t *testing.T) {
	got := []int{impl.LimitMax, impl.PageNone, impl.PageFrame, impl.PageSwap}
	if want := []int{6, 0, 1, 2}; !slices.Equal(got, want) {
		t.Errorf("the constants are %v, not %v", got, want)
	}
}

// P109: each limit that there is.
func TestNewPagers(t *testing.T) {
	for limit := 1; limit <= 6; limit++ {
		p, ok := impl.PagerNew(limit)
		if !ok || !samePager(p, freshPager(limit)) {
			t.Fatalf("PagerNew(%d) is %v, %t, not %v", limit, p, ok, freshPager(limit))
		}
		checkPager(t, p, true)
		checkKernel(t, p.Kernel, true)
		checkReach(t, p.Kernel, 0, 0, 1, 2, 3, 4)
		checkReach(t, p.Kernel, 1)
		checkReach(t, p.Kernel, 2)
		checkFree(t, p.Kernel.Infos, 7)
		for address := range 64 {
			if word := impl.PagerWord(p, address); word != 0 {
				t.Errorf("PagerWord(%d) of a new pager is %d", address, word)
			}
			checkNotSeen(t, p.Kernel, 0, address)
		}
	}
}

// P109: the fields of a new pager, one by one, so that a fault is told by its name.
func TestFieldsOfANewPager(t *testing.T) {
	p, _ := impl.PagerNew(4)
	k := p.Kernel
	if !sameMemory(k.Memory, [][]int{{7, 11, 15, 19}, {0, 0, 0, 0}, {0, 0, 0, 0}, {0, 0, 0, 0}, {0, 0, 0, 0}, {0, 0, 0, 0}, {0, 0, 0, 0}, {0, 0, 0, 0}, {0, 0, 0, 0}, {0, 0, 0, 0}, {0, 0, 0, 0}, {0, 0, 0, 0}}) {
		t.Errorf("the memory is %v", k.Memory)
	}
	if !slices.Equal(k.Infos, []impl.Info{{Kind: 3, Guard: "a", Refs: 1}, {Kind: 2, Guard: "a", Refs: 1}, {Kind: 2, Guard: "a", Refs: 1}, {Kind: 2, Guard: "a", Refs: 1}, {Kind: 2, Guard: "a", Refs: 1}, {}, {}, {}, {}, {}, {}, {}}) {
		t.Errorf("the frames are %v", k.Infos)
	}
	for env, want := range []impl.Env{{Rights: []string{"a"}, Root: 0}, {Rights: []string{"b"}, Root: -1}, {Rights: []string{"c"}, Root: -1}} {
		if len(k.Envs) != 3 || !slices.Equal(k.Envs[env].Rights, want.Rights) || k.Envs[env].Root != want.Root {
			t.Errorf("environment %d of %v is not %v", env, k.Envs, want)
		}
	}
	if len(k.Cache) != 0 {
		t.Errorf("the cache is %v", k.Cache)
	}
	if !sameMemory(p.Swap, make([][]int, 16)) {
		t.Errorf("the swap is %v", p.Swap)
	}
	if !slices.Equal(p.Low, []int{1, 2, 3, 4}) || !slices.Equal(p.Pages, make([]impl.Page, 16)) || p.Hand != 0 || p.Limit != 4 {
		t.Errorf("the other fields are %v, %v, %d and %d", p.Low, p.Pages, p.Hand, p.Limit)
	}
}

// P109: a new pager is what the calls of the document lead to, with their codes.
func TestNewPagersAreMadeByCalls(t *testing.T) {
	k := newOf(t, [][]string{{"a"}, {"b"}, {"c"}})
	calls := []impl.Call{takeCall(0, "a"), pinCall(0, 0, 3), rootCall(0, 0)}
	for i := range 4 {
		calls = append(calls, takeCall(0, "a"), pinCall(0, i+1, 2), setCall(0, 0, i, writeEntries[i+1]))
	}
	k, codes := impl.KernelPlay(k, calls)
	if !slices.Equal(codes, make([]int, 15)) {
		t.Fatalf("the codes are %v", codes)
	}
	for limit := 1; limit <= 6; limit++ {
		if p, _ := impl.PagerNew(limit); !sameKernel(p.Kernel, k) {
			t.Errorf("the kernel is %v, not %v", p.Kernel, k)
		}
	}
}

// P109: limits that there are not, next to the others and far away.
func TestNoNewPagers(t *testing.T) {
	limits := []int{-1, 0, 7}
	for _, limit := range append(limits, noneOf(7)...) {
		if p, ok := impl.PagerNew(limit); ok || !isZeroPager(p) {
			t.Errorf("PagerNew(%d) is %s, %t", limit, short(p), ok)
		}
	}
}

// P110, P111, P112: pagers that are written out and drawn, with pages in frames, in the swap and never used.
func TestValidPagers(t *testing.T) {
	kinds := [3]int{}
	for _, p := range validPagers() {
		if !pagerHolds(p) {
			t.Fatalf("%v is no example", p)
		}
		checkPager(t, p, true)
		checkKernel(t, p.Kernel, true)
		checkSwap(t, p.Swap, true)
		if many := len(inFrames(p)); many > p.Limit {
			t.Errorf("%d pages of %v are in frames", many, p)
		}
		for _, x := range p.Pages {
			kinds[x.Where]++
		}
	}
	if slices.Min(kinds[:]) < 500 {
		t.Errorf("the pages are, by where they are, %v", kinds)
	}
}

// P110: the hand at each page.
func TestValidPagersWithEachHand(t *testing.T) {
	for hand := range 16 {
		for i, text := range drawings() {
			checkPager(t, drawnPager(6, hand, text, i+hand), true)
		}
		checkPager(t, changedPager(writtenPager(), func(p *impl.Pager) { p.Hand = hand }), true)
	}
}

// P110: each limit, and each number of pages in frames: valid exactly if they are not more than the limit.
func TestPagersWithEachLimit(t *testing.T) {
	for limit := -1; limit <= 8; limit++ {
		for many := range 8 {
			dots, slots := strings.Repeat(".", 16-2*many), strings.Repeat("s", 16-many)
			for _, text := range []string{strings.Repeat("f", many) + slots, slots + strings.Repeat("u", many), dots + strings.Repeat("uf", many)[:many] + strings.Repeat("s", many)} {
				p := drawnPager(limit, 3, text, many)
				want := limit >= 1 && limit <= 6 && len(inFrames(p)) <= limit
				if pagerHolds(p) != want {
					t.Fatalf("%v is no example", p)
				}
				checkPager(t, p, want)
			}
		}
	}
}

// P110: rights that may be there beside those of a new pager.
func TestValidPagersWithOtherRights(t *testing.T) {
	start := writtenPager()
	for _, rights := range [][]string{{""}, {"", "a"}, {"a", "ab"}, {"a", "b", "c"}, {"a", "aa", "ab", "ac", "b", "bc"}, {"", "a", "b", "ba", "c", "cccc"}} {
		p := changedPager(start, func(p *impl.Pager) { p.Kernel.Envs[0].Rights = rights })
		checkPager(t, p, true)
		checkWords(t, p)
		for number := range 16 {
			checkTouch(t, p, number)
		}
	}
	for env := 1; env <= 2; env++ {
		for _, rights := range [][]string{nil, {}, {"aa"}, {"aa", "ab", "ac"}, {"aaaa", "abc", "b", "c"}, {"b", "c"}, {"ac", "b", "ba", "bb", "c", "cccc"}} {
			p := changedPager(start, func(p *impl.Pager) { p.Kernel.Envs[env].Rights = rights })
			checkPager(t, p, true)
			checkTouch(t, p, 9)
		}
	}
}

// busyPager is a pager in whose kernel both other environments have upper tables of their own, which lead to all frames that the pager does not have but for some.
func busyPager(limit int, text string, number int) impl.Pager {
	p := drawnPager(limit, number%16, text, number)
	free := freeFrames(p.Kernel)
	if len(free) < 3 {
		return p
	}
	k := &p.Kernel
	k.Infos[free[0]], k.Infos[free[1]], k.Infos[free[2]] = info(3, "b", 2), info(2, "bc", 1), info(1, "b", 2)
	k.Memory[free[0]], k.Memory[free[1]], k.Memory[free[2]] = []int{0, 0, writeEntries[free[1]], 0}, []int{0, readEntries[free[2]], writeEntries[free[2]], 0}, []int{7, 11, 15, 19}
	k.Envs[1].Root, k.Envs[2] = free[0], impl.Env{Rights: []string{"b", "c"}, Root: free[0]}
	k.Cache = []impl.Cached{{Env: 1, Page: 9, Frame: free[2]}}
	for _, x := range currentOf(p.Kernel, 0) {
		if len(k.Cache) < 3 {
			k.Cache = append(k.Cache, x)
		}
	}
	k.Cache = append(k.Cache, impl.Cached{Env: 2, Page: 9, Frame: free[2]})
	return p
}

// busyPagers are busyPager with each drawing.
func busyPagers() []impl.Pager {
	all := []impl.Pager{}
	for i, text := range drawings() {
		all = append(all, busyPager(limitOf(text), text, i), busyPager(6, text, 5*i+1))
	}
	return all
}

// P110 to P112: tables and translations of other environments, and translations of environment 0, make no difference to the pager.
func TestValidPagersWithOtherTables(t *testing.T) {
	for _, p := range busyPagers() {
		if !pagerHolds(p) {
			t.Fatalf("%v is no example", p)
		}
		checkPager(t, p, true)
		checkWords(t, p)
	}
}

// P110: after calls of other environments, of any kind, the pager is as valid as before, and its words are the same.
func TestValidPagersAfterOtherCalls(t *testing.T) {
	done := [12]int{}
	for i, p := range append(busyPagers(), validPagers()[:30]...) {
		next, words := series(i), wordsIn(p)
		for range 40 {
			c := anyCall(p.Kernel, next)
			c.Env = 1 + next(2)
			k, _, code := impl.KernelCall(p.Kernel, c)
			p = changedPager(p, func(p *impl.Pager) { p.Kernel = k })
			if code == 0 {
				done[c.Kind]++
			}
			checkPager(t, p, true)
			if !slices.Equal(wordsIn(p), words) {
				t.Errorf("%v changes the words to %v", c, wordsIn(p))
			}
		}
		checkWords(t, p)
		for number := range 16 {
			checkTouch(t, p, number)
		}
	}
	if slices.Min(done[1:]) == 0 {
		t.Errorf("the calls that are done are, by their kinds, %v", done)
	}
}

// P112: the word at each address, of pages of each kind.
func TestWordsOfPagers(t *testing.T) {
	for _, p := range validPagers() {
		checkWords(t, p)
	}
	p := writtenPager()
	want := map[int]int{12: 31, 13: 92, 14: 93, 15: 94, 24: 61, 25: 62, 27: 9999, 60: 5, 61: 6, 62: 7, 63: 8}
	for address := range 64 {
		if got := impl.PagerWord(p, address); got != want[address] {
			t.Errorf("PagerWord(%d) is %d, not %d", address, got, want[address])
		}
	}
}

// P112: drawn pages have a word of their own at each address, wherever they are.
func TestWordsOfDrawnPagers(t *testing.T) {
	for i, text := range drawings() {
		p := drawnPager(6, 0, text, i)
		for address := range 64 {
			want := 0
			if text[address/4] != '.' {
				want = drawnWord(address/4, address%4)
			}
			if got := impl.PagerWord(p, address); got != want {
				t.Errorf("of %q, PagerWord(%d) is %d, not %d", text, address, got, want)
			}
		}
	}
}

// P112: addresses that there are not.
func TestWordsOfPagersAtNoAddress(t *testing.T) {
	for _, p := range []impl.Pager{writtenPager(), drawnPager(6, 1, "ufsufsufsufs....", 2), freshPager(1)} {
		for _, address := range noneOf(64) {
			if got := impl.PagerWord(p, address); got != -1 {
				t.Fatalf("PagerWord(%d) is %d", address, got)
			}
		}
	}
}

// P111: environment 0 sees the words of the pages in frames, and no others.
func TestWhatEnvironmentZeroSees(t *testing.T) {
	for _, p := range append(validPagers(), busyPagers()...) {
		for number, x := range p.Pages {
			address := 4*number + number%4
			if x.Where == 1 {
				checkSees(t, p.Kernel, 0, address, impl.PagerWord(p, address))
			} else {
				checkNotSeen(t, p.Kernel, 0, address)
			}
		}
	}
}
