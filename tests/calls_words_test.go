package tests

import (
	"slices"
	"testing"

	"loop.example/exopager/impl"
)

// wordsKernel has the upper table 0 of the environments 0 and 1, and the upper table 1 of environment 2. Of the first one, page 0 is frame 4, to be written; page 1 the same
// frame, to be read; page 2 frame 5, to be written; and the pages 8 to 10 are the same ones, to be read. Of the second one, page 5 is frame 4 and page 7 frame 6, to be
// written, and the pages 13 and 15 are the same ones, to be read.
func wordsKernel() impl.Kernel {
	k := withTables(treeKernel(), 0, []int{11, 0, 9, 0}, []int{0, 15, 0, 13}, []int{19, 17, 23, 0}, []int{0, 19, 0, 27})
	return withRoot(withRoot(withRoot(k, 0, 0), 1, 0), 2, 1)
}

// remembered is the cache after a load or a store of a page that an environment has in a frame.
func remembered(c []impl.Cached, env int, number int, p page) []impl.Cached {
	if hasPage(c, env, number) {
		return c
	}
	return putInto(c, impl.Cached{Env: env, Page: number, Frame: p.frame, Write: p.write})
}

// P89, P91, P92: each address of wordsKernel, and those next to the first and the last one, written out: the frames of pages, and whether they may be written.
func TestWordsOfAllAddresses(t *testing.T) {
	k := wordsKernel()
	first := map[int]page{0: {4, true, 0}, 1: {4, false, 0}, 2: {5, true, 0}, 8: {4, false, 0}, 9: {4, false, 0}, 10: {5, false, 0}}
	spaces := []map[int]page{first, first, {5: {4, true, 0}, 7: {6, true, 0}, 13: {4, false, 0}, 15: {6, false, 0}}}
	for env, space := range spaces {
		for address := -2; address <= 65; address++ {
			p, ok := space[(address+4)/4-1]
			if !ok || address < 0 {
				checkRefused(t, k, loadCall(env, address), 3)
				checkRefused(t, k, storeCall(env, address, 5), 3)
				continue
			}
			word := 400 + 4*(p.frame-4) + address%4
			after := []impl.Cached{{Env: env, Page: address / 4, Frame: p.frame, Write: p.write}}
			checkDone(t, k, loadCall(env, address), word, func(k *impl.Kernel) { k.Cache = after })
			checkRefused(t, k, storeCall(env, address, -1), 3)
			checkRefused(t, k, storeCall(env, address, 10000), 3)
			for _, word := range []int{0, 5, 9999} {
				if p.write {
					checkDone(t, k, storeCall(env, address, word), 0, func(k *impl.Kernel) { k.Memory[p.frame][address%4], k.Cache = word, after })
				} else {
					checkRefused(t, k, storeCall(env, address, word), 1)
				}
			}
		}
	}
}

// P89, P91: addresses that do not exist, and words out of range, near and far away.
func TestNoAddressesAndNoWords(t *testing.T) {
	k := withTables(wordsKernel(), 0, []int{11, 11, 11, 11}, []int{0, 15, 0, 13}, []int{19, 19, 19, 19})
	for i, address := range noneOf(64) {
		checkRefused(t, k, loadCall(i%3, address), 3)
		checkRefused(t, k, storeCall(i%3, address, 7), 3)
	}
	for i, word := range noneOf(10000) {
		checkRefused(t, k, storeCall(i%2, i%64, word), 3)
	}
	for word := range 10000 {
		checkCode(t, k, storeCall(word%2, word*7%64, word), 0)
	}
}

// P89, P91: each environment, without an upper table, alone and beside others that have one.
func TestWordsWithoutRoots(t *testing.T) {
	k := wordsKernel()
	for env := range 3 {
		none := withRoot(k, env, -1)
		for address := -1; address <= 64; address++ {
			checkRefused(t, none, loadCall(env, address), 3)
			checkRefused(t, none, storeCall(env, address, 7), 3)
			checkRefused(t, allAllowed(emptyKernel()), loadCall(env, address), 3)
			checkRefused(t, allAllowed(emptyKernel()), storeCall(env, address, 7), 3)
		}
	}
}

// P92: for each entry of the upper table and of the lower one, at each page of each environment: both tell whether a word may be stored.
func TestStoresUnderBothEntries(t *testing.T) {
	for number := range 16 {
		for env := range 3 {
			start := agingKernel(env, number)
			top, low := number/4, number%4
			address := 4*number + (number+env)%4
			for _, upper := range []int{0, 13, 15, 17, 19} {
				for _, lower := range []int{0, 25, 27, 29, 31} {
					k := withKernelWord(withKernelWord(start, 0, top, upper), 3, low, lower)
					other, otherWrites, _ := named(31)
					p := page{0, false, 1}
					switch {
					case upper == 13 || upper == 15:
						if frame, write, ok := named(lower); ok {
							p = page{frame, write && upper == 15, 0}
						}
					case upper > 15:
						p = page{other, otherWrites && upper == 19, 0}
					}
					switch {
					case p.code != 0:
						checkRefused(t, k, loadCall(env, address), 3)
						checkRefused(t, k, storeCall(env, address, 7), 3)
					case p.write:
						checkDone(t, k, storeCall(env, address, 7), 0, func(k *impl.Kernel) {
							k.Memory[p.frame][address%4], k.Cache = 7, remembered(nil, env, number, p)
						})
					default:
						checkRefused(t, k, storeCall(env, address, 7), 1)
						checkDone(t, k, loadCall(env, address), k.Memory[p.frame][address%4], func(k *impl.Kernel) { k.Cache = remembered(nil, env, number, p) })
					}
				}
			}
		}
	}
}

// P90: no translation, one, several, and as many as there may be: one of the page stays where it is, at each place; otherwise a new one comes last, and in a full cache the first one is lost.
func TestWordsAndTranslations(t *testing.T) {
	k := wordsKernel()
	all := allCurrent(k)
	lost, kept := 0, 0
	for n := range len(all) * len(all) {
		for many := range 5 {
			c := []impl.Cached{}
			for i := range many {
				if x := all[(n+i*(n/len(all)+1))%len(all)]; !hasPage(c, x.Env, x.Page) {
					c = append(c, x)
				}
			}
			x := all[(n*5+many)%len(all)]
			want := remembered(c, x.Env, x.Page, page{x.Frame, x.Write, 0})
			before := withCache(k, c...)
			at := n % 4
			checkDone(t, before, loadCall(x.Env, 4*x.Page+at), 400+4*(x.Frame-4)+at, func(k *impl.Kernel) { k.Cache = want })
			if x.Write {
				checkDone(t, before, storeCall(x.Env, 4*x.Page+at, 9), 0, func(k *impl.Kernel) { k.Memory[x.Frame][at], k.Cache = 9, want })
			} else {
				checkRefused(t, before, storeCall(x.Env, 4*x.Page+at, 9), 1)
			}
			if len(c) == 4 && slices.Equal(want, c) {
				kept++
			}
			if len(c) == 4 && !slices.Equal(want, c) {
				lost++
			}
		}
	}
	if lost < 20 || kept < 20 {
		t.Errorf("%d times a translation is lost, and %d times none", lost, kept)
	}
}

// P90: loads one after the other, written out: the oldest translation goes first, and a load of a page that is there does not make its translation younger.
func TestLoadsOneAfterTheOther(t *testing.T) {
	k := wordsKernel()
	a, b, c := impl.Cached{Env: 0, Page: 0, Frame: 4, Write: true}, impl.Cached{Env: 1, Page: 0, Frame: 4, Write: true}, impl.Cached{Env: 2, Page: 15, Frame: 6}
	d, e, f := impl.Cached{Env: 0, Page: 10, Frame: 5}, impl.Cached{Env: 1, Page: 2, Frame: 5, Write: true}, impl.Cached{Env: 2, Page: 5, Frame: 4, Write: true}
	steps := []struct {
		call impl.Call
		want []impl.Cached
	}{
		{loadCall(0, 0), []impl.Cached{a}},
		{loadCall(0, 3), []impl.Cached{a}},
		{storeCall(1, 1, 9999), []impl.Cached{a, b}},
		{loadCall(2, 63), []impl.Cached{a, b, c}},
		{loadCall(0, 1), []impl.Cached{a, b, c}},
		{loadCall(0, 40), []impl.Cached{a, b, c, d}},
		{storeCall(0, 2, 0), []impl.Cached{a, b, c, d}},
		{storeCall(0, 40, 0), []impl.Cached{a, b, c, d}},
		{storeCall(1, 8, 1), []impl.Cached{b, c, d, e}},
		{loadCall(1, 3), []impl.Cached{b, c, d, e}},
		{loadCall(1, 16), []impl.Cached{b, c, d, e}},
		{storeCall(2, 20, 2), []impl.Cached{c, d, e, f}},
		{loadCall(0, 2), []impl.Cached{d, e, f, a}},
		{setCall(0, 1, 0, 0), []impl.Cached{d, e, a}},
		{loadCall(1, 0), []impl.Cached{d, e, a, b}},
		{rootCall(0, 0), []impl.Cached{e, b}},
		{rootCall(2, -1), []impl.Cached{e, b}},
		{loadCall(2, 63), []impl.Cached{e, b}},
		{setCall(2, 3, 0, 0), []impl.Cached{e, b}},
		{setCall(2, 2, 3, 0), []impl.Cached{}},
	}
	for i, x := range steps {
		k, _ = callNow(t, k, x.call)
		if !slices.Equal(k.Cache, x.want) {
			t.Errorf("after step %d, the cache is %v, not %v", i, k.Cache, x.want)
		}
	}
}

// P91: a store is loaded afterwards by the same environment, by another one with the same upper table, and by one that sees the frame at another address, where it can only be read, too.
func TestStoresAreLoaded(t *testing.T) {
	for at := range 4 {
		for _, start := range append(cachesOf(wordsKernel()), withCache(wordsKernel(), allCurrent(wordsKernel())[:4]...)) {
			for _, c := range []impl.Call{storeCall(0, at, 777), storeCall(1, at, 777), storeCall(2, 20+at, 777)} {
				k, code := callNow(t, start, c)
				if code != 0 {
					t.Fatalf("%v has the code %d", c, code)
				}
				for _, load := range []impl.Call{loadCall(0, at), loadCall(1, at), loadCall(0, 4+at), loadCall(1, 32+at), loadCall(0, 36+at), loadCall(2, 20+at), loadCall(2, 52+at)} {
					checkLoaded(t, k, load, 777)
				}
				checkLoaded(t, k, loadCall(0, 8+at), 404+at)
				checkLoaded(t, k, loadCall(2, 60+at), 408+at)
				checkLoaded(t, k, loadCall(0, (at+1)%4), 400+(at+1)%4)
			}
		}
	}
}

func checkLoaded(t *testing.T, k impl.Kernel, c impl.Call, word int) {
	t.Helper()
	if _, value, code := impl.KernelCall(k, c); value != word || code != 0 {
		t.Errorf("%v returns %d, %d, not %d", c, value, code, word)
	}
	checkSees(t, k, c.Env, c.A, word)
}

// P89 to P92: each address of each environment of many kernels: a load is done exactly where a word is seen, and a store where the place of the walk may be written, too.
func TestWordsOfManyKernels(t *testing.T) {
	done := [12][4]int{}
	for number, k := range validKernels()[:150] {
		for i := range 3 * 66 {
			env, address := i%3, i/3-1
			word, seen := impl.KernelSees(k, env, address)
			place, _ := impl.Walk(k.Memory, k.Envs[env].Root, address)
			after, value, code := impl.KernelCall(k, loadCall(env, address))
			done[10][code]++
			if (code == 0) != seen || value != word || code != 0 && code != 3 {
				t.Errorf("in %s, address %d of %d is %d, %d, and %d is seen, %t", short(k), address, env, value, code, word, seen)
			}
			callNow(t, k, loadCall(env, address))
			_, code = callNow(t, k, storeCall(env, address, (number*67+i)%10000))
			done[11][code]++
			want := 3
			if seen && !place.Write {
				want = 1
			}
			if seen && place.Write {
				want = 0
			}
			if code != want {
				t.Errorf("in %s, a store at address %d of %d has the code %d, not %d", short(k), address, env, code, want)
			}
			if seen {
				if again, v, n := impl.KernelCall(after, loadCall(env, address)); !sameKernel(again, after) || v != word || n != 0 {
					t.Errorf("in %s, a second load at address %d of %d changes it to %s, %d, %d", short(after), address, env, short(again), v, n)
				}
			}
		}
	}
	if done[10][0] < 1000 || done[11][0] < 300 || done[11][1] < 300 {
		t.Errorf("the codes are %v", done)
	}
}

// P77: calls of all kinds, with the cache and without it: the value, the code, the memory, the frames and the environments are the same.
func TestCallsWithoutTheCache(t *testing.T) {
	cached := 0
	for number, k := range validKernels() {
		next := series(number + 1000)
		all := allCurrent(k)
		for i := range 60 {
			first := next(len(all) + 1)
			with := withCache(k, all[first:min(first+i%5, len(all))]...)
			c := anyCall(k, next)
			one, value, code := impl.KernelCall(with, c)
			two, v, n := impl.KernelCall(withCache(k), c)
			if !sameKernel(withCache(one), withCache(two)) || value != v || code != n || code == 5 {
				t.Errorf("KernelCall(%s, %v) is %s, %d, %d, and without the cache %s, %d, %d", short(with), c, short(one), value, code, short(two), v, n)
			}
			if len(one.Cache) != len(two.Cache) {
				cached++
			}
		}
	}
	if cached < 1000 {
		t.Errorf("only %d caches are different", cached)
	}
}
