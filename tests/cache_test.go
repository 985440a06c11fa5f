package tests

import (
	"slices"
	"testing"

	"loop.example/exopager/impl"
)

func TestConstantsOfTheCache(t *testing.T) {
	if impl.CacheMax != 4 || impl.Envs != 3 {
		t.Errorf("the constants are %d and %d", impl.CacheMax, impl.Envs)
	}
}

// P21, P25, P27: every translation that there is, alone.
func TestEachTranslation(t *testing.T) {
	for env := range 3 {
		for page := range 16 {
			for frame := range 12 {
				for _, write := range []bool{false, true} {
					x := impl.Cached{Env: env, Page: page, Frame: frame, Write: write}
					c := []impl.Cached{x}
					if !impl.CacheValid(c) {
						t.Errorf("%v is invalid", c)
					}
					checkPut(t, nil, x, x)
					checkPut(t, c, x, x)
					if got, ok := impl.CacheFind(c, env, page); got != x || !ok {
						t.Errorf("in %v, CacheFind returns %v, %t", c, got, ok)
					}
					checkDropped(t, c, env)
					checkDropped(t, c, (env+1)%3, x)
				}
			}
		}
	}
}

// P21, P22: caches with room get longer.
func TestPutWithRoom(t *testing.T) {
	checkPut(t, nil, zeroPage, zeroPage)
	checkPut(t, []impl.Cached{}, lastPage, lastPage)
	checkPut(t, []impl.Cached{lastPage}, zeroPage, lastPage, zeroPage)
	checkPut(t, []impl.Cached{zeroPage}, middlePage, zeroPage, middlePage)
	checkPut(t, []impl.Cached{lastZero, zeroPage}, otherZero, lastZero, zeroPage, otherZero)
	checkPut(t, []impl.Cached{middlePage, lastZero, otherPage}, lastPage, middlePage, lastZero, otherPage, lastPage)
}

// P22: a full cache loses the first one, wherever else it has the same page of another environment, or another page in the same frame.
func TestPutIntoAFullCache(t *testing.T) {
	full := []impl.Cached{otherPage, zeroPage, lastZero, middlePage}
	checkPut(t, full, lastPage, zeroPage, lastZero, middlePage, lastPage)
	checkPut(t, full, otherZero, zeroPage, lastZero, middlePage, otherZero)
	sameFrame := impl.Cached{Env: 1, Page: 9, Frame: 5}
	checkPut(t, full, sameFrame, zeroPage, lastZero, middlePage, sameFrame)
	samePage := impl.Cached{Env: 0, Page: 8, Frame: 5}
	checkPut(t, full, samePage, zeroPage, lastZero, middlePage, samePage)
	checkPut(t, []impl.Cached{zeroPage, lastPage, otherPage, middlePage}, otherZero, lastPage, otherPage, middlePage, otherZero)
}

// again is the same page in another frame, which may be written if the one before may not.
func again(x impl.Cached) impl.Cached {
	x.Frame, x.Write = (x.Frame+3)%12, !x.Write
	return x
}

// P21, P22, P27: a page that is remembered twice, in a full cache: nothing but the older translation is lost.
func TestPutOfAPageThatIsThereIntoAFullCache(t *testing.T) {
	a, b, c, d := zeroPage, otherZero, middlePage, lastPage
	full := []impl.Cached{a, b, c, d}
	checkPut(t, full, again(a), b, c, d, again(a))
	checkPut(t, full, again(b), a, c, d, again(b))
	checkPut(t, full, again(c), a, b, d, again(c))
	checkPut(t, full, again(d), a, b, c, again(d))
	checkPut(t, full, a, b, c, d, a)
	checkPut(t, full, b, a, c, d, b)
	checkPut(t, full, c, a, b, d, c)
	checkPut(t, full, d, a, b, c, d)
}

// P21, P22, P27: a page that is remembered twice, in a cache with room, which does not get longer.
func TestPutOfAPageThatIsThereWithRoom(t *testing.T) {
	a, b, c := lastZero, zeroPage, otherPage
	three := []impl.Cached{a, b, c}
	checkPut(t, three, again(a), b, c, again(a))
	checkPut(t, three, again(b), a, c, again(b))
	checkPut(t, three, again(c), a, b, again(c))
	checkPut(t, three, a, b, c, a)
	checkPut(t, three, b, a, c, b)
	checkPut(t, three, c, a, b, c)
	two := []impl.Cached{a, b}
	checkPut(t, two, again(a), b, again(a))
	checkPut(t, two, again(b), a, again(b))
	checkPut(t, []impl.Cached{a}, again(a), again(a))
	checkPut(t, []impl.Cached{a}, a, a)
}

// P21, P22: another frame alone, or another right to write alone, is not another page.
func TestPutOfAPageWithOneDifference(t *testing.T) {
	for at, old := range []impl.Cached{zeroPage, otherZero, middlePage, lastPage} {
		frame, write := old, old
		frame.Frame, write.Write = 11-old.Frame, !old.Write
		for _, x := range []impl.Cached{frame, write} {
			full := []impl.Cached{zeroPage, otherZero, middlePage, lastPage}
			want := append(slices.Delete(slices.Clone(full), at, at+1), x)
			checkPut(t, full, x, want...)
			checkPut(t, full[at:], x, putInto(full[at:], x)...)
		}
	}
}

// newOnes are translations for a put: all nine pages of allCaches and others, of which some are in frames that are remembered.
func newOnes() []impl.Cached {
	list := writtenOut()
	for number := range 9 {
		list = append(list, placed(number, 1), placed(number, 4))
	}
	return append(list, impl.Cached{Env: 2, Page: 3, Frame: 5}, impl.Cached{Env: 0, Page: 1, Frame: 0, Write: true})
}

// P21, P22, P23: every cache of up to four of nine pages, and every one of them, or another one, put into it.
func TestPutIntoAllCaches(t *testing.T) {
	for _, c := range append(allCaches(), writtenCaches()...) {
		for _, x := range newOnes() {
			got, ok := impl.CachePut(c, x)
			if !ok || !slices.Equal(got, putInto(c, x)) || !impl.CacheValid(got) {
				t.Errorf("into %v, CachePut of %v returns %v, %t", c, x, got, ok)
			}
			if y, fine := impl.CacheFind(got, x.Env, x.Page); y != x || !fine || got[len(got)-1] != x {
				t.Errorf("in %v, CacheFind of %v returns %v, %t", got, x, y, fine)
			}
			checkPut(t, got, x, got...)
		}
	}
}

// P22: each other translation is found as before, but for the first one if there were four of other pages.
func TestPutLosesNothingElse(t *testing.T) {
	for _, c := range allCaches() {
		for _, x := range newOnes() {
			got, _ := impl.CachePut(c, x)
			lost := 0
			if len(c) == 4 && !hasPage(c, x.Env, x.Page) {
				checkNotFound(t, got, c[0].Env, c[0].Page)
				lost = 1
			}
			for _, y := range c[lost:] {
				if y.Env == x.Env && y.Page == x.Page {
					continue
				}
				if z, ok := impl.CacheFind(got, y.Env, y.Page); z != y || !ok {
					t.Errorf("after CachePut of %v into %v, %v is %v, %t", x, c, y, z, ok)
				}
			}
		}
	}
}

// P21, P22, P23: many puts, one after the other: there are the last four pages, in the order in which they were put last, each as it was then.
func TestManyPuts(t *testing.T) {
	for _, pages := range []int{1, 2, 3, 4, 5, 6, 9, 48} {
		number := pages
		cache, puts := []impl.Cached{}, []impl.Cached{}
		for range 300 {
			number = (number*1103 + 12345) % 1000003
			x := manyPages(pages)[number%pages]
			x.Frame, x.Write = number/7%12, number/5%2 == 0
			next, ok := impl.CachePut(cache, x)
			cache, puts = next, append(puts, x)
			if want := lastPages(puts); !ok || !slices.Equal(cache, want) {
				t.Fatalf("after %v, the cache is %v, %t, not %v", puts, cache, ok, want)
			}
		}
		checkFound(t, cache)
	}
}

// lastPages goes back through the puts, until it has four pages.
func lastPages(puts []impl.Cached) []impl.Cached {
	list := []impl.Cached{}
	for _, x := range slices.Backward(puts) {
		if len(list) < 4 && !hasPage(list, x.Env, x.Page) {
			list = slices.Insert(list, 0, x)
		}
	}
	return list
}

// P24: no, some and all translations are of the environment; the others stay in order.
func TestDrop(t *testing.T) {
	full := []impl.Cached{zeroPage, otherPage, middlePage, otherZero}
	checkDropped(t, full, 0, otherPage, otherZero)
	checkDropped(t, full, 1, zeroPage, middlePage)
	checkDropped(t, full, 2, full...)
	mixed := []impl.Cached{lastPage, otherPage, zeroPage, lastZero}
	checkDropped(t, mixed, 0, lastPage, otherPage, lastZero)
	checkDropped(t, mixed, 1, lastPage, zeroPage, lastZero)
	checkDropped(t, mixed, 2, otherPage, zeroPage)
	own := []impl.Cached{lastPage, lastZero, {Env: 2, Page: 3, Frame: 3}, {Env: 2, Page: 2, Frame: 2}}
	checkDropped(t, own, 0, own...)
	checkDropped(t, own, 1, own...)
	checkDropped(t, own, 2)
	for env := -1; env <= 3; env++ {
		checkDropped(t, nil, env)
		checkDropped(t, []impl.Cached{}, env)
	}
}

// P24, P26: every cache of up to four of nine pages.
func TestDropOfAllCaches(t *testing.T) {
	kept := [5]int{}
	for _, c := range append(allCaches(), writtenCaches()...) {
		for env := range 3 {
			want := ofOthers(c, env)
			kept[len(want)]++
			checkDropped(t, c, env, want...)
			got := impl.CacheDrop(c, env)
			if !impl.CacheValid(got) {
				t.Errorf("%v is invalid", got)
			}
			for _, x := range c {
				if y, ok := impl.CacheFind(got, x.Env, x.Page); ok != (x.Env != env) || ok && y != x {
					t.Errorf("after CacheDrop of %d of %v, CacheFind of %v returns %v, %t", env, c, x, y, ok)
				}
			}
			checkDropped(t, got, env, got...)
		}
	}
	for length, many := range kept {
		if many == 0 {
			t.Errorf("no cache keeps %d", length)
		}
	}
}

// P24: of an environment that does not exist there are no translations, so that all others are all there are.
func TestDropOfNoEnvironment(t *testing.T) {
	for _, c := range writtenCaches() {
		for _, env := range noneOf(3) {
			checkDropped(t, c, env, c...)
		}
	}
}

// P25: exactly the translations of the cache are found.
func TestFindInAllCaches(t *testing.T) {
	for _, c := range append(allCaches(), writtenCaches()...) {
		checkFound(t, c)
	}
}

// P25: no translation, though the zero value would be one of the first page of the first environment.
func TestFindInAnEmptyCache(t *testing.T) {
	checkFound(t, nil)
	checkFound(t, []impl.Cached{})
	checkFound(t, make([]impl.Cached, 0, 4))
	checkFound(t, impl.CacheDrop([]impl.Cached{zeroPage, middlePage}, 0))
	checkFound(t, []impl.Cached{otherZero, lastZero, lastPage})
}

// P25: environments and pages that do not exist.
func TestFindOfNoPage(t *testing.T) {
	full := []impl.Cached{zeroPage, otherPage, lastZero, lastPage}
	for _, env := range noneOf(3) {
		for _, page := range []int{-1, 0, 8, 15, 16} {
			checkNotFound(t, full, env, page)
		}
		checkNotFound(t, nil, env, 0)
		checkNotFound(t, full, env, env)
	}
	for _, page := range noneOf(16) {
		for env := -1; env <= 3; env++ {
			checkNotFound(t, full, env, page)
		}
		checkNotFound(t, nil, 0, page)
	}
}

// P26: what is put after a drop is found again, and the rest is not.
func TestFindAfterDropAndPut(t *testing.T) {
	full := []impl.Cached{zeroPage, otherPage, middlePage, otherZero}
	c := impl.CacheDrop(full, 0)
	checkNotFound(t, c, 0, 0)
	checkNotFound(t, c, 0, 7)
	checkFound(t, c)
	c, _ = impl.CachePut(c, again(middlePage))
	checkCache(t, c, []impl.Cached{otherPage, otherZero, again(middlePage)})
	checkFound(t, c)
	checkFound(t, impl.CacheDrop(c, 1))
	checkFound(t, impl.CacheDrop(impl.CacheDrop(c, 1), 0))
	checkFound(t, full)
}

// P27: valid caches, without any one translation, and with one twice.
func TestValidCachesWithoutOneAndWithOneTwice(t *testing.T) {
	for _, c := range append(allCaches(), writtenCaches()...) {
		if !impl.CacheValid(c) {
			t.Errorf("%v is invalid", c)
		}
		for at, x := range c {
			if less := slices.Delete(slices.Clone(c), at, at+1); !impl.CacheValid(less) {
				t.Errorf("%v is invalid", less)
			}
			for to := range len(c) + 1 {
				if more := slices.Insert(slices.Clone(c), to, x); impl.CacheValid(more) {
					t.Errorf("%v is valid", more)
				}
			}
		}
	}
}
