package tests

import (
	"slices"
	"testing"

	"loop.example/exopager/impl"
)

// changedPages are the pages that are elsewhere than before.
func changedPages(before impl.Pager, after impl.Pager) []int {
	list := []int{}
	for n, x := range before.Pages {
		if y := after.Pages[n]; x.Where != y.Where || x.At != y.At {
			list = append(list, n)
		}
	}
	return list
}

// checkBrought expects what the promises about PagerTouch say when it succeeds.
func checkBrought(t *testing.T, p impl.Pager, number int, got impl.Pager) {
	t.Helper()
	checkPager(t, got, true)
	if x := got.Pages[number]; x.Where != 1 || !x.Used {
		t.Errorf("PagerTouch(%v, %d) leaves the page at %v", p, number, x)
	}
	if !slices.Equal(wordsIn(got), wordsIn(p)) {
		t.Errorf("PagerTouch(%v, %d) changes the words to %v", p, number, wordsIn(got))
	}
	for _, address := range []int{4*number + 1, (4*number + 22) % 64} {
		if word := impl.PagerWord(got, address); word != wordIn(p, address) {
			t.Errorf("after PagerTouch(%v, %d), PagerWord(%d) is %d", p, number, address, word)
		}
	}
	for _, n := range changedPages(p, got) {
		if n != number && (p.Pages[n].Where != 1 || got.Pages[n].Where != 2) {
			t.Errorf("PagerTouch(%v, %d) moves page %d to %v", p, number, n, got.Pages[n])
		}
	}
	if many := len(changedPages(p, got)); many > 2 {
		t.Errorf("PagerTouch(%v, %d) moves %d pages", p, number, many)
	}
	if again, ok := impl.PagerTouch(got, number); !ok || !samePager(again, got) {
		t.Errorf("PagerTouch of %d leads from %v to %v, %t", number, got, again, ok)
	}
}

// P113 to P117: each page of all pagers.
func TestTouchOfEachPage(t *testing.T) {
	failed, moved := 0, 0
	for _, p := range append(validPagers(), busyPagers()...) {
		for number, x := range p.Pages {
			got := checkTouch(t, p, number)
			_, ok := impl.PagerTouch(p, number)
			if want := len(inFrames(p)) > 0 || len(freeFrames(p.Kernel)) > 0; ok != want {
				t.Errorf("PagerTouch(%v, %d) returns %t", p, number, ok)
			}
			if !ok {
				failed++
				continue
			}
			checkBrought(t, p, number, got)
			if x.Where != 1 && len(inFrames(got)) == len(inFrames(p)) {
				moved++
			}
		}
	}
	if failed < 100 || moved < 500 {
		t.Errorf("%d pages are not brought, and %d are moved out", failed, moved)
	}
}

// P113, P114: a page in a frame only becomes used: also where as many pages are in frames as may be, no frame is free, and the hand is there.
func TestTouchOfPagesInFrames(t *testing.T) {
	for _, text := range []string{"f...............", ".......f........", "ufufuf..........", "fs.fs.fs.fs.fs.u", "ffffff..ssssssss"} {
		for hand := range 16 {
			p := drawnPager(limitOf(text), hand, text, hand)
			for _, start := range []impl.Pager{p, withTaken(p, 7, 0), changedPager(p, func(p *impl.Pager) { p.Limit = 6 })} {
				start.Kernel.Cache = currentOf(start.Kernel, 0)[:1]
				for _, number := range inFrames(start) {
					want := changedPager(start, func(p *impl.Pager) { p.Pages[number].Used = true })
					if got, ok := impl.PagerTouch(start, number); !ok || !samePager(got, want) {
						t.Errorf("PagerTouch(%v, %d) is %v, %t", start, number, got, ok)
					}
					checkTouch(t, want, number)
				}
			}
		}
	}
}

// P113: the words of a page in the swap come back, and its place becomes free.
func TestTouchOfPagesInTheSwap(t *testing.T) {
	for number := range 16 {
		for i, words := range append(furtherWords(), drawnWords(number)) {
			p := changedPager(drawnPager(3, 0, "ssssssssssssssss", i), func(p *impl.Pager) { p.Swap[p.Pages[number].At] = words })
			slot := p.Pages[number].At
			got := checkTouch(t, p, number)
			if !slices.Equal(got.Kernel.Memory[5], words) || got.Pages[number] != framed(5, true) || !sameMemory(got.Swap, with(p.Swap, slot)) {
				t.Errorf("PagerTouch of %d, with the words %v, leads to %v", number, words, got)
			}
			for at, word := range words {
				checkSees(t, got.Kernel, 0, 4*number+at, word)
			}
		}
	}
}

// P113: the words of a page that was never used are 0, whatever was in its frame.
func TestTouchOfPagesNeverUsed(t *testing.T) {
	for number := range 16 {
		p := drawnPager(2, 0, "................", 0)
		if slices.Max(p.Kernel.Memory[5]) == 0 {
			t.Fatal("there are only zeros in the frame")
		}
		got := checkTouch(t, p, number)
		if !slices.Equal(got.Kernel.Memory[5], []int{0, 0, 0, 0}) || got.Pages[number] != framed(5, true) || !sameMemory(got.Swap, p.Swap) {
			t.Errorf("PagerTouch of %d leads to %v", number, got)
		}
	}
}

// P113: what a page leaves in its frame is not what the next one finds there.
func TestTouchOfAPageInAFrameThatWasLeft(t *testing.T) {
	p := freshPager(1)
	for number := range 16 {
		for at := range 4 {
			p = checkStore(t, p, 4*number+at, 9999-number)
		}
		p = checkTouch(t, p, (number+1)%16)
		if number < 15 && !slices.Equal(p.Kernel.Memory[5], []int{0, 0, 0, 0}) {
			t.Errorf("page %d begins with %v", number+1, p.Kernel.Memory[5])
		}
	}
	checkWords(t, p)
}

// P115: no page is in a frame, and no frame is free: no page can be brought, and the pager stays.
func TestTouchWithoutAnyFrame(t *testing.T) {
	for i, text := range []string{"................", "ssssssssssssssss", "s..s..s..s..s..s", ".ss............."} {
		for limit := 1; limit <= 6; limit++ {
			p := withTaken(drawnPager(limit, 3*i+limit, text, i), 7, i)
			for number := range 16 {
				if got, ok := impl.PagerTouch(p, number); ok || !samePager(got, p) {
					t.Errorf("PagerTouch(%v, %d) is %v, %t", p, number, got, ok)
				}
				address := 4*number + number%4
				if got, word, ok := impl.PagerLoad(p, address); ok || word != 0 || !samePager(got, p) {
					t.Errorf("PagerLoad(%v, %d) is %v, %d, %t", p, address, got, word, ok)
				}
				if got, ok := impl.PagerStore(p, address, 77); ok || !samePager(got, p) {
					t.Errorf("PagerStore(%v, %d, 77) is %v, %t", p, address, got, ok)
				}
			}
			checkNoTouch(t, p, 16)
			checkNoLoad(t, p, 64)
			checkNoStore(t, p, 0, 10000)
			checkNoStore(t, p, -1, 0)
		}
	}
}

// P115: no page is in a frame, and one frame is free, whichever it is: each page can be brought, and takes it from the one before.
func TestTouchWithOneFrame(t *testing.T) {
	for frame := 5; frame <= 11; frame++ {
		for i, text := range []string{"................", "ssssssssssssssss", "s..s..s..s..s..s"} {
			p := withTaken(drawnPager(1+frame%6, frame, text, i), 7, 0)
			p.Kernel.Infos[frame] = impl.Info{}
			for number := range 16 {
				if got := checkTouch(t, p, number); got.Pages[number] != framed(frame, true) {
					t.Errorf("page %d is at %v", number, got.Pages[number])
				}
			}
			for number := range 32 {
				p = checkTouch(t, p, 5*number%16)
				if frames := inFrames(p); !slices.Equal(frames, []int{5 * number % 16}) {
					t.Errorf("the pages %v are in frames, not %d", frames, 5*number%16)
				}
			}
			checkWords(t, p)
		}
	}
}

// P116: with the limit 1, each page takes the place of the one before, from whichever page to whichever other one.
func TestTouchWithTheLimitOne(t *testing.T) {
	for step := range 16 {
		p := drawnPager(1, step, "ssss....ssss....", step)
		for turn := range 40 {
			number := (turn*step + turn/16) % 16
			before := p
			p = checkTouch(t, p, number)
			if frames := inFrames(p); !slices.Equal(frames, []int{number}) || p.Pages[number].At != 5 {
				t.Errorf("the pages %v are in frames, not %d", frames, number)
			}
			if last := inFrames(before); len(last) == 1 && last[0] != number && (p.Pages[last[0]].Where != 2 || p.Hand != (last[0]+1)%16) {
				t.Errorf("page %d is at %v, and the hand at %d", last[0], p.Pages[last[0]], p.Hand)
			}
		}
		checkWords(t, p)
	}
}

// P113, P116: pages that are brought again and again, with each limit, in several orders, while others have some of the frames or none.
func TestTouchAgainAndAgain(t *testing.T) {
	for limit := 1; limit <= 6; limit++ {
		for taken := range 8 {
			p := withTaken(drawnPager(limit, taken, "s.s..s.s.s.s.s..", limit+taken), taken, limit)
			next := series(10*limit + taken)
			words := wordsIn(p)
			for turn := range 60 {
				p = checkTouch(t, p, next(4+turn/5))
			}
			if !slices.Equal(wordsIn(p), words) {
				t.Errorf("the words are %v, not %v", wordsIn(p), words)
			}
			if many := len(inFrames(p)); many != min(limit, 7-taken) {
				t.Errorf("%d pages are in frames, with the limit %d, and %d frames of others", many, limit, taken)
			}
			checkWords(t, p)
		}
	}
}
