package tests

import (
	"slices"
	"strconv"
	"testing"

	"loop.example/exopager/impl"
)

// The translations of which the written out caches are made. The first one is the zero value, which is a translation like all others. There are the same page of
// different environments, different pages in the same frame, and the first and the last environment, page and frame.
var (
	zeroPage   = impl.Cached{}
	otherZero  = impl.Cached{Env: 1, Page: 0, Frame: 0, Write: true}
	lastZero   = impl.Cached{Env: 2, Page: 0, Frame: 7}
	middlePage = impl.Cached{Env: 0, Page: 7, Frame: 7, Write: true}
	otherPage  = impl.Cached{Env: 1, Page: 8, Frame: 5}
	lastPage   = impl.Cached{Env: 2, Page: 15, Frame: 11, Write: true}
)

func writtenOut() []impl.Cached {
	return []impl.Cached{zeroPage, otherZero, lastZero, middlePage, otherPage, lastPage}
}

// writtenCaches has caches of all lengths, of one and of several environments.
func writtenCaches() [][]impl.Cached {
	return [][]impl.Cached{
		nil,
		{},
		{zeroPage},
		{lastPage},
		{zeroPage, middlePage},
		{lastZero, lastPage},
		{otherZero, zeroPage, lastZero},
		{otherZero, {Env: 1, Page: 1}, otherPage},
		{zeroPage, otherZero, lastZero, lastPage},
		{lastPage, otherPage, middlePage, zeroPage},
		{otherPage, {Env: 1, Page: 9, Frame: 5}, {Env: 1, Page: 10, Frame: 5}, {Env: 1, Page: 11, Frame: 5}},
	}
}

// allCaches are the caches of up to four of nine pages, in any order: three pages of each environment. A page has another frame, or may be written or not, by its place
// in the cache, so that it is not the page alone that tells of them.
func allCaches() [][]impl.Cached {
	list := [][]impl.Cached{{}}
	from := 0
	for length := 1; length <= 4; length++ {
		to := len(list)
		for _, c := range list[from:to] {
			for number := range 9 {
				x := placed(number, length)
				if !hasPage(c, x.Env, x.Page) {
					list = append(list, append(slices.Clone(c), x))
				}
			}
		}
		from = to
	}
	return list
}

func placed(number int, length int) impl.Cached {
	return impl.Cached{
		Env:   number / 3,
		Page:  []int{0, 7, 15}[number%3],
		Frame: []int{0, 5, 11}[(number+length)%3],
		Write: (number+length)%2 == 0,
	}
}

func hasPage(c []impl.Cached, env int, page int) bool {
	return slices.ContainsFunc(c, func(x impl.Cached) bool { return x.Env == env && x.Page == page })
}

// putInto is what a put should return: the others, of which no more than three are left, and the new one.
func putInto(c []impl.Cached, x impl.Cached) []impl.Cached {
	others := []impl.Cached{}
	for _, y := range c {
		if y.Env != x.Env || y.Page != x.Page {
			others = append(others, y)
		}
	}
	return append(others[max(0, len(others)-3):], x)
}

// ofOthers are the translations of all other environments.
func ofOthers(c []impl.Cached, env int) []impl.Cached {
	list := []impl.Cached{}
	for _, x := range c {
		if x.Env != env {
			list = append(list, x)
		}
	}
	return list
}

// manyPages are different pages, as many as there are at the most, each of which would be valid alone.
func manyPages(many int) []impl.Cached {
	c := []impl.Cached{}
	for i := range many {
		c = append(c, impl.Cached{Env: i % 3, Page: i / 3, Frame: i % 12, Write: i%2 == 0})
	}
	return c
}

type namedCache struct {
	name string
	c    []impl.Cached
}

// longCaches have too many translations, of different pages.
func longCaches() []namedCache {
	list := []namedCache{}
	for many := 5; many <= 48; many++ {
		list = append(list, namedCache{strconv.Itoa(many) + " translations", manyPages(many)})
	}
	return list
}

// doubledCaches have one page twice, at each two places: the same translation, or another one, of any frame, which may be written or not.
func doubledCaches() []namedCache {
	list := []namedCache{}
	for length := 1; length <= 4; length++ {
		for from := range length {
			for to := range length + 1 {
				for _, other := range []impl.Cached{{}, {Frame: 1}, {Write: true}, {Frame: 4, Write: true}} {
					c := slices.Clone(writtenOut()[:length])
					x := c[from]
					x.Frame, x.Write = (x.Frame+other.Frame)%12, x.Write != other.Write
					c = slices.Insert(c, to, x)
					list = append(list, namedCache{"the page of " + strconv.Itoa(from) + " again at " + strconv.Itoa(to), c})
				}
			}
		}
	}
	return list
}

// faulty has the translation with one field that is out of range, each field in turn.
func faulty(x impl.Cached, env int, page int, frame int) []impl.Cached {
	a, b, c := x, x, x
	a.Env, b.Page, c.Frame = env, page, frame
	return []impl.Cached{a, b, c}
}

// edgeFaults are the nearest numbers out of range, the farthest ones, and some that look valid if only a part of them is kept.
func edgeFaults(x impl.Cached) []impl.Cached {
	list := faulty(x, 3, 16, 12)
	for _, n := range badWords() {
		list = append(list, faulty(x, n, n, n)...)
	}
	for _, shift := range []int{8, 16, 31, 32, 48, 62} {
		list = append(list, faulty(x, x.Env+1<<shift, x.Page+1<<shift, x.Frame+1<<shift)...)
		list = append(list, faulty(x, x.Env-1<<shift, x.Page-1<<shift, x.Frame-1<<shift)...)
	}
	return list
}

// faultyCaches have an invalid translation at each place of caches of each length.
func faultyCaches() []namedCache {
	list := []namedCache{}
	for length := 1; length <= 4; length++ {
		for at := range length {
			for _, x := range edgeFaults(writtenOut()[at]) {
				c := slices.Clone(writtenOut()[:length])
				c[at] = x
				list = append(list, namedCache{"a fault at " + strconv.Itoa(at) + " of " + strconv.Itoa(length), c})
			}
		}
	}
	return list
}

func invalidCaches() []namedCache {
	return slices.Concat(longCaches(), doubledCaches(), faultyCaches())
}

func checkCache(t *testing.T, got []impl.Cached, want []impl.Cached) {
	t.Helper()
	if !slices.Equal(got, want) {
		t.Errorf("returned %v, not %v", got, want)
	}
}

// checkPut compares the result of a put with the cache that is wanted.
func checkPut(t *testing.T, c []impl.Cached, x impl.Cached, want ...impl.Cached) {
	t.Helper()
	if got, ok := impl.CachePut(c, x); !ok || !slices.Equal(got, want) {
		t.Errorf("into %v, CachePut of %v returns %v, %t, not %v", c, x, got, ok, want)
	}
}

func checkNoPut(t *testing.T, c []impl.Cached, x impl.Cached) {
	t.Helper()
	if got, ok := impl.CachePut(c, x); ok || len(got) != 0 {
		t.Errorf("into %v, CachePut of %v returns %v, %t", c, x, got, ok)
	}
}

// checkFound looks for each page of each environment, and for some that do not exist.
func checkFound(t *testing.T, c []impl.Cached) {
	t.Helper()
	for env := -1; env <= 3; env++ {
		for page := -1; page <= 16; page++ {
			want := impl.Cached{}
			at := slices.IndexFunc(c, func(x impl.Cached) bool { return x.Env == env && x.Page == page })
			if at >= 0 {
				want = c[at]
			}
			if got, ok := impl.CacheFind(c, env, page); got != want || ok != (at >= 0) {
				t.Errorf("in %v, CacheFind of %d, %d returns %v, %t, not %v, %t", c, env, page, got, ok, want, at >= 0)
			}
		}
	}
}

func checkNotFound(t *testing.T, c []impl.Cached, env int, page int) {
	t.Helper()
	if got, ok := impl.CacheFind(c, env, page); got != (impl.Cached{}) || ok {
		t.Errorf("in %v, CacheFind of %d, %d returns %v, %t", c, env, page, got, ok)
	}
}

func checkDropped(t *testing.T, c []impl.Cached, env int, want ...impl.Cached) {
	t.Helper()
	if got := impl.CacheDrop(c, env); !slices.Equal(got, want) {
		t.Errorf("of %v, CacheDrop of %d returns %v, not %v", c, env, got, want)
	}
}
