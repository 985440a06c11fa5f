package tests

import (
	"slices"
	"testing"

	"loop.example/exopager/impl"
)

var spoiled = impl.Cached{Env: -77, Page: -77, Frame: -77, Write: true}

// spoilCache writes to all that can be reached from a cache, within its capacity, too.
func spoilCache(c []impl.Cached) {
	for i := range c[:cap(c)] {
		c[:cap(c)][i] = spoiled
	}
}

// cacheChanges has puts of pages that are there and that are not, and drops, among them those that change nothing.
func cacheChanges() []listChange[impl.Cached] {
	list := []listChange[impl.Cached]{}
	for _, x := range append(writtenOut(), again(zeroPage), again(lastPage), impl.Cached{Env: 1, Page: 7, Frame: 3}) {
		list = append(list, listChange[impl.Cached]{"CachePut", func(c []impl.Cached) []impl.Cached {
			got, _ := impl.CachePut(c, x)
			return got
		}})
	}
	for env := -1; env <= 3; env++ {
		list = append(list, listChange[impl.Cached]{"CacheDrop", func(c []impl.Cached) []impl.Cached { return impl.CacheDrop(c, env) }})
	}
	return list
}

// roomy is the cache in a slice with room behind it, which holds translations that do not count.
func roomy(c []impl.Cached) []impl.Cached {
	store := append(slices.Clone(c), manyPages(6)...)
	return store[:len(c)]
}

// P21 to P27: all functions leave the cache as it is, and what lies behind it, with valid arguments and with invalid ones.
func TestCachesAreLeft(t *testing.T) {
	all := append(allCaches(), writtenCaches()...)
	for _, x := range invalidCaches() {
		all = append(all, x.c)
	}
	for _, start := range all {
		c := roomy(start)
		before := slices.Clone(c[:cap(c)])
		for _, x := range append(writtenOut(), spoiled) {
			impl.CacheValid(c)
			impl.CacheFind(c, x.Env, x.Page)
			impl.CachePut(c, x)
			impl.CachePut(c, again(x))
			impl.CacheDrop(c, x.Env)
		}
		if !slices.Equal(c[:cap(c)], before) {
			t.Fatalf("%v is changed to %v", before, c[:cap(c)])
		}
	}
}

// P21, P22, P24: a result shares nothing with the argument.
func TestChangedCachesShareNothing(t *testing.T) {
	for _, start := range writtenCaches() {
		checkApart(t, start, roomy, spoiled, cacheChanges())
	}
}

// P21, P22, P24: the results of two calls share nothing, though the arguments are the same.
func TestTwoResultsShareNothing(t *testing.T) {
	for _, c := range writtenCaches() {
		checkResultsApart(t, c, roomy, spoiled, cacheChanges())
	}
}

// P25: what is found is a copy: it stays when the cache is changed.
func TestFoundTranslationStays(t *testing.T) {
	c := []impl.Cached{zeroPage, lastPage}
	x, _ := impl.CacheFind(c, 2, 15)
	spoilCache(c)
	if x != lastPage {
		t.Errorf("the translation is changed to %v", x)
	}
}

// P21 to P27: a call depends on nothing that earlier calls did.
func TestNothingIsRemembered(t *testing.T) {
	full := []impl.Cached{zeroPage, otherPage, lastZero, lastPage}
	impl.CachePut(full, middlePage)
	impl.CachePut(nil, otherZero)
	checkFound(t, nil)
	checkPut(t, nil, middlePage, middlePage)
	checkPut(t, full, otherZero, otherPage, lastZero, lastPage, otherZero)
	impl.CacheDrop(full, 2)
	checkFound(t, full)
	checkPut(t, full, middlePage, otherPage, lastZero, lastPage, middlePage)
	full[0] = again(zeroPage)
	checkFound(t, full)
	checkDropped(t, full, 2, again(zeroPage), otherPage)
	full[1] = full[2]
	checkInvalidCache(t, "a change", full)
	full[1] = otherPage
	checkFound(t, full)
}
