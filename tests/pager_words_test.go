package tests

import (
	"slices"
	"testing"

	"loop.example/exopager/impl"
)

// checkRead expects what the promises about PagerLoad say when it succeeds.
func checkRead(t *testing.T, p impl.Pager, address int) {
	t.Helper()
	got, word, ok := impl.PagerLoad(p, address)
	if !ok {
		return
	}
	checkPager(t, got, true)
	if want := impl.PagerWord(p, address); word != want || impl.PagerWord(got, address) != want {
		t.Errorf("PagerLoad(%v, %d) returns %d, not %d", p, address, word, want)
	}
	if !slices.Equal(wordsIn(got), wordsIn(p)) {
		t.Errorf("PagerLoad(%v, %d) changes the words to %v", p, address, wordsIn(got))
	}
}

// checkWritten expects what the promises about PagerStore say when it succeeds.
func checkWritten(t *testing.T, p impl.Pager, address int, word int) {
	t.Helper()
	got, ok := impl.PagerStore(p, address, word)
	if !ok {
		return
	}
	checkPager(t, got, true)
	want := wordsIn(p)
	want[address] = word
	if !slices.Equal(wordsIn(got), want) || impl.PagerWord(got, address) != word {
		t.Errorf("PagerStore(%v, %d, %d) changes the words to %v", p, address, word, wordsIn(got))
	}
	if _, read, fine := impl.PagerLoad(got, address); !fine || read != word {
		t.Errorf("after PagerStore(%v, %d, %d), PagerLoad returns %d, %t", p, address, word, read, fine)
	}
}

// P118 to P121: each page of all pagers, at each place in turn. It succeeds exactly if the page can be brought.
func TestLoadAndStoreOfEachPage(t *testing.T) {
	for i, p := range append(validPagers(), busyPagers()...) {
		for number := range 16 {
			address := 4*number + (i+number)%4
			word := []int{0, 9999, 1, 4*number + 3, 5000 + i}[(i+number)%5]
			checkLoad(t, p, address)
			checkRead(t, p, address)
			checkStore(t, p, address, word)
			checkWritten(t, p, address, word)
			_, brought := impl.PagerTouch(p, number)
			_, _, read := impl.PagerLoad(p, address)
			_, written := impl.PagerStore(p, address, word)
			if read != brought || written != brought {
				t.Errorf("of page %d of %v, PagerTouch returns %t, PagerLoad %t and PagerStore %t", number, p, brought, read, written)
			}
		}
	}
}

// P118 to P121: each address, of pages of each kind.
func TestLoadAndStoreAtEachAddress(t *testing.T) {
	for i, text := range drawings() {
		p := drawnPager(limitOf(text), i%16, text, i)
		for address := range 64 {
			checkLoad(t, p, address)
			got := checkStore(t, p, address, 9999-address)
			checkLoad(t, got, address)
			checkLoad(t, got, (address+1)%64)
			checkLoad(t, got, 63-address)
		}
	}
}

// P118, P120, P121: loads and stores that are written out.
func TestWrittenLoadsAndStores(t *testing.T) {
	p := freshPager(2)
	p = checkStore(t, p, 0, 7)
	p = checkStore(t, p, 5, 8)
	p = checkStore(t, p, 63, 9999)
	if text := drawingOf(p); text != "sf.............u" || p.Hand != 1 {
		t.Errorf("the pages are %s, and the hand is at %d", text, p.Hand)
	}
	p = checkStore(t, p, 1, 9)
	if text := drawingOf(p); text != "us.............u" || p.Hand != 2 {
		t.Errorf("the pages are %s, and the hand is at %d", text, p.Hand)
	}
	want := map[int]int{0: 7, 1: 9, 5: 8, 63: 9999}
	for address := range 64 {
		if got := impl.PagerWord(p, address); got != want[address] {
			t.Errorf("PagerWord(%d) is %d, not %d", address, got, want[address])
		}
	}
	for _, address := range []int{5, 0, 63, 1, 4, 62, 30, 0} {
		next, word, ok := impl.PagerLoad(p, address)
		if !ok || word != want[address] {
			t.Errorf("PagerLoad of %d returns %d, %t, not %d", address, word, ok, want[address])
		}
		p = next
	}
}

// P120: each word that there is, at an address of a page of each kind.
func TestStoreOfEachWord(t *testing.T) {
	p := drawnPager(2, 0, "ufs.............", 3)
	for word := range 10000 {
		address := []int{1, 6, 11, 12}[word%4]
		got, ok := impl.PagerStore(p, address, word)
		if !ok || wordIn(got, address) != word {
			t.Fatalf("PagerStore(%v, %d, %d) is %v, %t", p, address, word, got, ok)
		}
		if word%100 < 2 || word > 9990 {
			checkStore(t, p, address, word)
			checkWritten(t, p, address, word)
		}
	}
}

// P120, P121: words and addresses just at the bounds and beside them.
func TestStoreAtTheBounds(t *testing.T) {
	for _, p := range []impl.Pager{writtenPager(), freshPager(1), drawnPager(6, 15, "u..............s", 4)} {
		for _, address := range []int{-2, -1, 0, 1, 62, 63, 64, 65} {
			if address < 0 || address > 63 {
				checkNoLoad(t, p, address)
			} else {
				checkLoad(t, p, address)
			}
			for _, word := range []int{-2, -1, 0, 1, 9998, 9999, 10000, 10001} {
				if address < 0 || address > 63 || word < 0 || word > 9999 {
					checkNoStore(t, p, address, word)
				} else {
					checkStore(t, p, address, word)
					checkWritten(t, p, address, word)
				}
			}
		}
	}
}

// P118, P120, P121: a word that is stored is loaded again after so many other pages were brought that its page was moved out, and so are all others.
func TestStoreThenLoadAfterOtherPages(t *testing.T) {
	for limit := 1; limit <= 6; limit++ {
		for address := range 64 {
			p := drawnPager(limit, address%16, "..ss..ss..ss..ss", address)
			p = checkStore(t, p, address, 4242)
			want := wordsIn(p)
			out := false
			for turn := range 2 * limit {
				p = checkTouch(t, p, (address/4+1+turn)%16)
				out = out || p.Pages[address/4].Where == 2
			}
			if !out {
				t.Errorf("with the limit %d, page %d was not moved out", limit, address/4)
			}
			for _, other := range []int{address, (address + 4) % 64, address, 63 - address, (address + 33) % 64} {
				next, word, ok := impl.PagerLoad(p, other)
				if !ok || word != want[other] {
					t.Errorf("with the limit %d, PagerLoad of %d returns %d, %t, not %d", limit, other, word, ok, want[other])
				}
				p = next
			}
		}
	}
}

// P120, P121: a word at each address, and all of them are loaded again, in several orders.
func TestStoreEverywhereThenLoadEverywhere(t *testing.T) {
	for limit := 1; limit <= 6; limit++ {
		for _, step := range []int{1, 3, 5, 13, 29, 63} {
			p := freshPager(limit)
			for turn := range 64 {
				address := turn * step % 64
				p, _ = impl.PagerStore(p, address, drawnWord(address/4, address%4))
			}
			checkPager(t, p, true)
			checkWords(t, p)
			for turn := range 64 {
				address := (turn*(64-step) + 7) % 64
				next, word, ok := impl.PagerLoad(p, address)
				if !ok || word != drawnWord(address/4, address%4) {
					t.Errorf("with the limit %d, PagerLoad of %d returns %d, %t", limit, address, word, ok)
				}
				p = next
			}
		}
	}
}

// P118, P120, P121: loads and stores in any order, held against a flat memory, with each limit, while others take frames and give them back. At first, they may have all frames.
func TestLoadsAndStoresInAnyOrder(t *testing.T) {
	failed := 0
	for number := range 60 {
		next := series(31 * number)
		p, flat := withTaken(freshPager(1+number%6), number%4*3, number), make([]int, 64)
		for turn := range 150 {
			address, word := next(8+turn/3), []int{0, next(10000), 9999}[next(3)]
			switch next(5) {
			case 0, 1:
				p = checkStore(t, p, address, word)
				if len(inFrames(p)) == 0 {
					failed++
					continue
				}
				flat[address] = word
			case 2, 3:
				p = checkLoad(t, p, address)
			default:
				p = changedPager(p, func(p *impl.Pager) { p.Kernel, _, _ = impl.KernelCall(p.Kernel, takeOrGive(p.Kernel, next)) })
			}
			if !slices.Equal(wordsIn(p), flat) {
				t.Fatalf("the words of %v are not %v", p, flat)
			}
		}
		checkWords(t, p)
	}
	if failed < 20 {
		t.Errorf("only %d stores fail", failed)
	}
}

// takeOrGive is a call of environment 1, which takes a frame, or gives one back if it has one.
func takeOrGive(k impl.Kernel, next func(int) int) impl.Call {
	frame := anyFrame(k, next, func(x impl.Info) bool { return x.Guard == "b" })
	if frame < 0 || next(3) > 0 {
		return takeCall(1, "b")
	}
	return giveCall(1, frame)
}
