package tests

import (
	"slices"
	"strings"
	"testing"

	"loop.example/exopager/impl"
)

// movedCase is a pager that moves a page out: how it is drawn before and after, without the page that is brought, which is never used before.
type movedCase struct {
	hand  int
	text  string
	after string
	next  int
}

// P116, P117: cases that are written out. Page 15 is brought into a frame each time.
func TestWrittenMoves(t *testing.T) {
	for i, x := range []movedCase{
		{0, "f...............", "s..............u", 1},
		{1, "f...............", "s..............u", 1},
		{15, "f...............", "s..............u", 1},
		{0, "u...............", "s..............u", 1},
		{7, "u...............", "s..............u", 1},
		{0, ".......f........", ".......s.......u", 8},
		{7, ".......f........", ".......s.......u", 8},
		{8, ".......f........", ".......s.......u", 8},
		{0, "..............f.", "..............su", 15},
		{15, "..............u.", "..............su", 15},
		{0, "ff..............", "sf.............u", 1},
		{1, "ff..............", "fs.............u", 2},
		{2, "ff..............", "sf.............u", 1},
		{0, "uf..............", "fs.............u", 2},
		{1, "uf..............", "us.............u", 2},
		{2, "uf..............", "fs.............u", 2},
		{0, "fu..............", "su.............u", 1},
		{1, "fu..............", "sf.............u", 1},
		{0, "uu..............", "sf.............u", 1},
		{1, "uu..............", "fs.............u", 2},
		{2, "uu..............", "sf.............u", 1},
		{0, "s.u.sf.u.f.su.s.", "s.f.ss.u.f.su.su", 6},
		{6, "s.u.sf.u.f.su.s.", "s.u.sf.f.s.su.su", 10},
		{9, "s.u.sf.u.f.su.s.", "s.u.sf.u.s.su.su", 10},
		{10, "s.u.sf.u.f.su.s.", "s.f.ss.u.f.sf.su", 6},
		{14, "s.u.su.u.u.su.s.", "s.s.sf.f.f.sf.su", 3},
		{3, "s.u.su.u.u.su.s.", "s.f.ss.f.f.sf.su", 6},
		{13, "s.u.su.u.u.fu.s.", "s.f.sf.f.f.su.su", 12},
		{12, "s.u.su.u.u.fu.s.", "s.f.sf.f.f.sf.su", 12},
		{11, "s.u.su.u.u.fu.s.", "s.u.su.u.u.su.su", 12},
	} {
		many := limitOf(x.text)
		for _, p := range []impl.Pager{drawnPager(many, x.hand, x.text, i), withTaken(drawnPager(6, x.hand, x.text, i), 7, i)} {
			got := checkTouch(t, p, 15)
			if text := drawingOf(got); text != x.after || got.Hand != x.next {
				t.Errorf("with the hand at %d, %s becomes %s, and the hand %d, not %s and %d", x.hand, x.text, text, got.Hand, x.after, x.next)
			}
		}
	}
}

// drawingOf are the letters of the pages of a pager.
func drawingOf(p impl.Pager) string {
	letters := []string{".", "f", "s", "?", "?", "u", "?"}
	text := ""
	for _, x := range p.Pages {
		at := x.Where
		if x.Used {
			at += 4
		}
		text += letters[at]
	}
	return text
}

// drawnWith has some pages in frames, of which those were used lately whose bits are 1 in a number. All others are in the swap or were never used, each in turn.
func drawnWith(pages []int, used int) string {
	text := []byte(strings.Repeat("s..s.", 4)[:16])
	for i, n := range pages {
		text[n] = "fu"[used>>i&1]
	}
	return string(text)
}

// checkClock brings a page that is in the swap, or one that was never used, into a frame, where as many pages are in frames as the limit, or no frame is free. It expects that a
// page is moved out, and one that was used lately only if all in frames were.
func checkClock(t *testing.T, pages []int, used int, hand int) {
	t.Helper()
	text := drawnWith(pages, used)
	number := (hand*5 + used) % 16
	for text[number] == 'f' || text[number] == 'u' {
		number = (number + 1) % 16
	}
	p := drawnPager(len(pages), hand, text, hand+3*used)
	if (hand+used)%2 == 1 {
		p = withTaken(drawnPager(6, hand, text, used), 7, hand)
	}
	got := checkTouch(t, p, number)
	out := slices.IndexFunc(pages, func(n int) bool { return got.Pages[n].Where == 2 })
	if out < 0 || len(inFrames(got)) != len(pages) || got.Hand != (pages[out]+1)%16 {
		t.Fatalf("of %s, PagerTouch of %d leads to %s, and the hand %d", text, number, drawingOf(got), got.Hand)
	}
	if used>>out&1 == 1 && used != 1<<len(pages)-1 {
		t.Errorf("of %s, PagerTouch of %d moves page %d out", text, number, pages[out])
	}
}

// P116, P117: each set of one or two pages in frames, each of which was used lately or was not, with the hand at each page.
func TestMovesOfUpToTwoPages(t *testing.T) {
	for one := range 16 {
		for two := one; two < 16; two++ {
			pages := slices.Compact([]int{one, two})
			for used := range 1 << len(pages) {
				for hand := range 16 {
					checkClock(t, pages, used, hand)
				}
			}
		}
	}
}

// P116, P117: more pages in frames, side by side and apart from each other, at the beginning, at the end and round about.
func TestMovesOfManyPages(t *testing.T) {
	for _, pages := range [][]int{
		{0, 1, 2}, {13, 14, 15}, {0, 7, 15}, {3, 4, 12}, {0, 1, 15}, {5, 8, 10},
		{0, 1, 2, 3}, {12, 13, 14, 15}, {0, 1, 14, 15}, {2, 6, 10, 14}, {4, 5, 6, 9},
		{0, 1, 2, 3, 4}, {11, 12, 13, 14, 15}, {1, 4, 7, 10, 13}, {0, 2, 3, 14, 15},
		{0, 1, 2, 3, 4, 5}, {10, 11, 12, 13, 14, 15}, {0, 3, 6, 9, 12, 15}, {1, 2, 5, 8, 9, 14},
	} {
		for used := range 1 << len(pages) {
			for hand := range 16 {
				checkClock(t, pages, used, hand)
			}
		}
	}
}

// P115, P116: fewer pages in frames than the limit, and free frames: nothing is moved out, and no page becomes not used, wherever the hand is.
func TestNoMoveBelowTheLimit(t *testing.T) {
	for hand := range 16 {
		for i, text := range drawings() {
			for limit := limitOf(text) + 1; limit <= 6; limit++ {
				p := withTaken(drawnPager(limit, hand, text, i+hand), (i+hand)%(7-limitOf(text)), hand)
				number := slices.IndexFunc(p.Pages, func(x impl.Page) bool { return x.Where != 1 })
				want := slices.Clone(p.Pages)
				want[number] = framed(freeFrames(p.Kernel)[0], true)
				if got := checkTouch(t, p, number); !slices.Equal(got.Pages, want) || got.Hand != hand {
					t.Errorf("of %s, PagerTouch of %d leads to %s, and the hand %d", text, number, drawingOf(got), got.Hand)
				}
			}
		}
	}
}

// P116: the first place that is free gets the words, whichever this is. The place of the page that is brought is not free yet.
func TestPlacesOfMoves(t *testing.T) {
	for slot := range 16 {
		for other := range 16 {
			p := drawnPager(1, 0, "s.f.............", slot)
			p.Swap = make([][]int, 16)
			p.Swap[slot], p.Pages[0].At = []int{1, 2, 3, 4}, slot
			if other != slot {
				p.Swap[other], p.Pages[7] = []int{5, 6, 7, 8}, swapped(other)
			}
			first := 0
			for first == slot || first == other {
				first++
			}
			got := checkTouch(t, p, 0)
			if got.Pages[2] != swapped(first) || !slices.Equal(got.Swap[first], drawnWords(2)) || len(got.Swap[slot]) > 0 {
				t.Errorf("with words at %d and %d, the page is at %v, and the swap is %v", slot, other, got.Pages[2], got.Swap)
			}
			if got = checkTouch(t, p, 9); got.Pages[2] != swapped(first) || len(got.Swap[slot]) == 0 {
				t.Errorf("with words at %d and %d, the page is at %v, and the swap is %v", slot, other, got.Pages[2], got.Swap)
			}
		}
	}
}

// P116: only one place is free, the last one: each page but one was used, and the next one is brought.
func TestPlacesOfMovesOfAlmostFullSwaps(t *testing.T) {
	for n := range 16 {
		text := []byte("ssssssssssssssss")
		text[n] = 'u'
		for number := range 16 {
			p := drawnPager(1, number, string(text), n+number)
			got := checkTouch(t, p, (n+1+number)%16)
			if number < 15 && got.Pages[n] != swapped(freeSlot(p.Swap)) {
				t.Errorf("page %d is at %v", n, got.Pages[n])
			}
			checkWords(t, got)
		}
	}
}

// P116: the first free frame is taken, which may be the one that the other page has left, one in front of it, or one behind it.
func TestFramesOfMoves(t *testing.T) {
	for frame := 5; frame <= 11; frame++ {
		for n := range 1 << 7 {
			p := drawnPager(1, 4, "f......s........", frame-5)
			for i := range 7 {
				if n>>i&1 == 1 && 5+i != frame {
					p.Kernel.Infos[5+i] = info(1, "b", 0)
				}
			}
			first := min(append(freeFrames(p.Kernel), 12)[0], frame)
			if got := checkTouch(t, p, 7); got.Pages[7] != framed(first, true) || got.Pages[0].Where != 2 {
				t.Errorf("with the frames %v free, the page is at %v", freeFrames(p.Kernel), got.Pages[7])
			}
			two := changedPager(p, func(p *impl.Pager) { p.Limit = 2 })
			if free := freeFrames(p.Kernel); len(free) > 0 {
				first = free[0]
			}
			if got := checkTouch(t, two, 7); got.Pages[7] != framed(first, true) {
				t.Errorf("with the frames %v free, the page is at %v", freeFrames(p.Kernel), got.Pages[7])
			}
		}
	}
}
