package tests

import (
	"slices"
	"testing"

	"loop.example/exopager/impl"
)

// checkInvalidCache tries all functions, also with what the cache has, and with what would leave a valid one behind.
func checkInvalidCache(t *testing.T, name string, c []impl.Cached) {
	t.Helper()
	if impl.CacheValid(c) {
		t.Errorf("%s: %v is valid", name, c)
	}
	for _, x := range append(writtenOut(), c...) {
		checkNotFound(t, c, x.Env, x.Page)
		checkNoPut(t, c, x)
		checkDropped(t, c, x.Env)
	}
	checkDropped(t, c, -1)
	checkDropped(t, c, 3)
	checkNotFound(t, c, -1, 16)
	checkNoPut(t, c, impl.Cached{Env: 1, Page: 12, Frame: 9})
	checkNoPut(t, c, impl.Cached{Env: 3, Page: 12, Frame: 9})
}

// P21 to P27: too many translations, a page twice, and translations that are invalid.
func TestInvalidCaches(t *testing.T) {
	for _, x := range invalidCaches() {
		checkInvalidCache(t, x.name, x.c)
	}
}

// P27: too many translations of one page, of four pages in turn, and of all pages in turn, which come again only when a ring has lost them.
func TestVeryLongCaches(t *testing.T) {
	for _, many := range []int{5, 6, 7, 8, 12, 16, 49, 256, 257, 260, 65536, 65540} {
		for _, turn := range [][]impl.Cached{{lastPage}, manyPages(4), manyPages(48)} {
			c := slices.Repeat(turn, many/len(turn)+1)[:many]
			if impl.CacheValid(c) {
				t.Errorf("%d translations are valid", many)
			}
			checkNotFound(t, c, c[0].Env, c[0].Page)
			checkNotFound(t, c, c[many-1].Env, c[many-1].Page)
			checkNoPut(t, c, c[0])
			checkNoPut(t, c, lastPage)
			checkDropped(t, c, 0)
			checkDropped(t, c, 2)
		}
	}
}

// P24, P27: caches that would be valid after the drop or after the put.
func TestCachesThatWouldBeMended(t *testing.T) {
	five := manyPages(5)
	for _, x := range five {
		checkNoPut(t, five, x)
		checkDropped(t, five, x.Env)
	}
	twice := []impl.Cached{otherPage, again(otherPage), zeroPage}
	checkNoPut(t, twice, otherPage)
	checkDropped(t, twice, 1)
	checkDropped(t, twice, 0)
	bad := []impl.Cached{zeroPage, {Env: 1, Page: 8, Frame: 12}}
	checkNoPut(t, bad, otherPage)
	checkDropped(t, bad, 1)
	away := []impl.Cached{zeroPage, {Env: 3, Page: 8, Frame: 5}}
	checkDropped(t, away, 3)
	first := []impl.Cached{{Env: 1, Page: 16, Frame: 5}, zeroPage, lastZero, lastPage}
	checkNoPut(t, first, otherPage)
	checkDropped(t, first, 1)
}

// P25: a page is not found in front of the fault either, nor behind it.
func TestFindNextToAFault(t *testing.T) {
	for at := range 4 {
		for _, x := range faulty(otherPage, 3, 16, 12) {
			c := slices.Insert([]impl.Cached{zeroPage, lastZero, lastPage}, at, x)
			for _, y := range c {
				checkNotFound(t, c, y.Env, y.Page)
			}
		}
	}
}

// P21, P27: every number that is out of range, in each field and at each place.
func TestFieldsOutOfRange(t *testing.T) {
	check := func(bad impl.Cached, field int) {
		for at := range 4 {
			c := []impl.Cached{otherPage, zeroPage, lastPage, middlePage}
			c[at] = bad
			checkInvalidAt(t, c, at, field)
		}
		checkNoPut(t, nil, bad)
		checkNoPut(t, []impl.Cached{zeroPage, lastPage}, bad)
		checkNoPut(t, []impl.Cached{otherPage, zeroPage, lastPage, middlePage}, bad)
	}
	for field, limit := range []int{3, 16, 12} {
		for _, n := range noneOf(limit) {
			check(faulty(impl.Cached{Env: 2, Page: 9, Frame: 4, Write: n%2 == 0}, n, n, n)[field], field)
		}
	}
}

func checkInvalidAt(t *testing.T, c []impl.Cached, at int, field int) {
	t.Helper()
	if impl.CacheValid(c) {
		t.Errorf("field %d of %d of %v is not out of range", field, at, c)
	}
	checkNotFound(t, c, c[at].Env, c[at].Page)
	checkNotFound(t, c, c[(at+1)%4].Env, c[(at+1)%4].Page)
	checkNoPut(t, c, c[(at+1)%4])
	checkDropped(t, c, c[at].Env)
	checkDropped(t, c, c[(at+1)%4].Env)
}

// P21: translations that are invalid, into caches of each length, also if it is only the frame of a page that is there.
func TestPutOfInvalidTranslations(t *testing.T) {
	for _, c := range writtenCaches() {
		for _, x := range writtenOut() {
			for _, bad := range edgeFaults(x) {
				checkNoPut(t, c, bad)
			}
		}
		for _, x := range c {
			for _, bad := range edgeFaults(x) {
				checkNoPut(t, c, bad)
			}
		}
	}
}

// P22, P27: no fault of the numbers just within range: the last environment, page and frame, and the first ones.
func TestEdgesOfTheRange(t *testing.T) {
	edges := []impl.Cached{{Env: 2, Page: 15, Frame: 11}, {Env: 0, Page: 0, Frame: 0}, {Env: 2, Page: 0, Frame: 11}, {Env: 0, Page: 15, Frame: 0}}
	if !impl.CacheValid(edges) {
		t.Errorf("%v is invalid", edges)
	}
	checkPut(t, edges, impl.Cached{Env: 2, Page: 15, Frame: 0}, edges[1], edges[2], edges[3], impl.Cached{Env: 2, Page: 15, Frame: 0})
	checkFound(t, edges)
}
