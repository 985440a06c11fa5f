package tests

import (
	"slices"
	"testing"

	"loop.example/exopager/impl"
)

// callsToMoveOut are the calls by which a page leaves its frame, in order.
func callsToMoveOut(p impl.Pager, number int) []impl.Call {
	return []impl.Call{setCall(0, p.Low[number/4], number%4, 0), giveCall(0, p.Pages[number].At)}
}

// callsToMoveIn are the calls by which a page comes into a frame, in order; the frame is known, as it is the first free one.
func callsToMoveIn(p impl.Pager, number int, frame int) []impl.Call {
	calls := []impl.Call{takeCall(0, "a")}
	if x := p.Pages[number]; x.Where == 2 {
		for at, word := range p.Swap[x.At] {
			calls = append(calls, pokeCall(0, frame, at, word))
		}
	}
	return append(calls, setCall(0, p.Low[number/4], number%4, writeEntries[frame]))
}

// callsToBring are the calls by which PagerTouch brings a page, if it succeeds.
func callsToBring(p impl.Pager, number int) []impl.Call {
	if p.Pages[number].Where == 1 {
		return nil
	}
	calls, free := []impl.Call{}, freeFrames(p.Kernel)
	if len(inFrames(p)) == p.Limit || len(free) == 0 {
		out, _ := leaving(p)
		calls, free = callsToMoveOut(p, out), append(free, p.Pages[out].At)
	}
	return append(calls, callsToMoveIn(p, number, slices.Min(free))...)
}

// checkKernelAfter expects that a kernel is what calls of environment 0 lead to, all of which are done.
func checkKernelAfter(t *testing.T, name string, p impl.Pager, got impl.Kernel, calls []impl.Call) {
	t.Helper()
	want, codes := impl.KernelPlay(p.Kernel, calls)
	if !sameKernel(got, want) || slices.ContainsFunc(codes, func(code int) bool { return code != 0 }) {
		t.Errorf("%s of %v leads to %v, and the calls %v to %v, with the codes %v", name, p, got, calls, want, codes)
	}
}

// P113, P118, P120: what is changed in the kernel is what the calls of the document lead to, for each page of all pagers.
func TestCallsOfPagers(t *testing.T) {
	for i, p := range append(busyPagers(), validPagers()...) {
		for number := range 16 {
			after, ok := impl.PagerTouch(p, number)
			if !ok {
				continue
			}
			calls := callsToBring(p, number)
			checkKernelAfter(t, "PagerTouch", p, after.Kernel, calls)
			address, word := 4*number+i%4, (i*number)%10000
			loaded, _, _ := impl.PagerLoad(p, address)
			checkKernelAfter(t, "PagerLoad", p, loaded.Kernel, append(slices.Clone(calls), loadCall(0, address)))
			stored, _ := impl.PagerStore(p, address, word)
			checkKernelAfter(t, "PagerStore", p, stored.Kernel, append(slices.Clone(calls), storeCall(0, address, word)))
		}
	}
}

// P113: the kernel in which a page of writtenPager was brought, written out: page 9 comes from the swap, page 0 was never used, and page 3 is moved out for it if the limit is 2.
func TestWrittenKernelsOfPagers(t *testing.T) {
	p := writtenPager()
	want := changedKernel(p.Kernel, func(k *impl.Kernel) {
		k.Memory[3], k.Memory[7] = []int{0, 31, 0, 0}, []int{0, 0, 0, 0}
		k.Infos[7], k.Cache = info(1, "a", 1), nil
	})
	checkTouched(t, p, 9, want)
	want = changedKernel(p.Kernel, func(k *impl.Kernel) {
		k.Memory[1], k.Memory[7] = []int{31, 0, 0, 39}, []int{0, 0, 0, 0}
		k.Infos[7], k.Cache = info(1, "a", 1), nil
	})
	checkTouched(t, p, 0, want)
	p.Limit = 2
	want = changedKernel(p.Kernel, func(k *impl.Kernel) {
		k.Memory[1], k.Memory[4], k.Memory[7] = []int{0, 0, 0, 0}, []int{0, 0, 0, 31}, []int{5, 6, 7, 8}
		k.Infos[7], k.Infos[9], k.Cache = info(1, "a", 1), impl.Info{}, nil
	})
	got := checkTouched(t, p, 15, want)
	if !sameMemory(got.Swap, with(with(make([][]int, 16), 1, 31, 92, 93, 94), 2, 0, 0, 0, 0)) {
		t.Errorf("the swap is %v", got.Swap)
	}
	if got.Hand != 4 || got.Pages[6] != framed(6, false) || got.Pages[3] != swapped(1) || got.Pages[15] != framed(7, true) {
		t.Errorf("the hand is at %d, and the pages are %v", got.Hand, got.Pages)
	}
}

func checkTouched(t *testing.T, p impl.Pager, number int, want impl.Kernel) impl.Pager {
	t.Helper()
	got := checkTouch(t, p, number)
	if !sameKernel(got.Kernel, want) {
		t.Errorf("PagerTouch of %d leads to the kernel %v, not %v", number, got.Kernel, want)
	}
	return got
}

// cachedPager has the pages 0, 5 and 10 in frames, and page 15 in the swap. Its cache has translations of the pages that are named, and of environment 1, whose number is -1.
func cachedPager(limit int, pages ...int) impl.Pager {
	p := busyPager(limit, "u....f....u....s", 0)
	p.Kernel.Cache = nil
	for _, number := range pages {
		x := currentOf(p.Kernel, 1)[0]
		if number >= 0 {
			x = impl.Cached{Env: 0, Page: number, Frame: p.Pages[number].At, Write: true}
		}
		p.Kernel.Cache = append(p.Kernel.Cache, x)
	}
	return p
}

// cachedPages are the pages of environment 0 in a cache, in order, and -1 for all others.
func cachedPages(c []impl.Cached) []int {
	list := []int{}
	for _, x := range c {
		if x.Env == 0 {
			list = append(list, x.Page)
		} else {
			list = append(list, -1)
		}
	}
	return list
}

// P113, P118, P120: the cache, in order. A page that is brought makes those of environment 0 forgotten, and those of others stay; a page that is loaded or stored comes last, or
// stays where it is; if there are four, the first one is lost.
func TestCachesOfPagers(t *testing.T) {
	for _, x := range []struct {
		cache   []int
		page    int
		touched []int
		loaded  []int
	}{
		{nil, 5, nil, []int{5}},
		{[]int{0}, 5, []int{0}, []int{0, 5}},
		{[]int{5, 0}, 5, []int{5, 0}, []int{5, 0}},
		{[]int{0, -1, 10}, 5, []int{0, -1, 10}, []int{0, -1, 10, 5}},
		{[]int{5, 0, -1, 10}, 5, []int{5, 0, -1, 10}, []int{5, 0, -1, 10}},
		{[]int{5, 0, -1, 10}, 10, []int{5, 0, -1, 10}, []int{5, 0, -1, 10}},
		{nil, 15, nil, []int{15}},
		{[]int{0, 5}, 15, nil, []int{15}},
		{[]int{-1}, 15, []int{-1}, []int{-1, 15}},
		{[]int{0, -1, 5, 10}, 15, []int{-1}, []int{-1, 15}},
		{[]int{10, 0, 5}, 1, nil, []int{1}},
		{[]int{5, -1}, 1, []int{-1}, []int{-1, 1}},
	} {
		for _, limit := range []int{3, 4} {
			p := cachedPager(limit, x.cache...)
			checkPager(t, p, true)
			if got := checkTouch(t, p, x.page); !slices.Equal(cachedPages(got.Kernel.Cache), x.touched) {
				t.Errorf("PagerTouch of %d leads from the cache %v to %v, not %v", x.page, x.cache, got.Kernel.Cache, x.touched)
			}
			for _, got := range []impl.Pager{checkLoad(t, p, 4*x.page+1), checkStore(t, p, 4*x.page+2, 77)} {
				if !slices.Equal(cachedPages(got.Kernel.Cache), x.loaded) {
					t.Errorf("a load or a store of page %d leads from the cache %v to %v, not %v", x.page, x.cache, got.Kernel.Cache, x.loaded)
				}
			}
		}
	}
}

// P118: a full cache without the page loses its first translation; this one may be of another environment, too.
func TestFullCachesOfPagers(t *testing.T) {
	p := drawnPager(5, 0, "fffff...........", 2)
	all := currentOf(p.Kernel, 0)
	for i, order := range permutations([]int{0, 1, 2, 3}) {
		p.Kernel.Cache = []impl.Cached{all[order[0]], all[order[1]], all[order[2]], all[order[3]]}
		want := append(order[1:], 4)
		if got := checkLoad(t, p, 16+i%4); !slices.Equal(cachedPages(got.Kernel.Cache), want) {
			t.Errorf("the cache is %v, not %v", got.Kernel.Cache, want)
		}
		if got := checkStore(t, p, 16+i%4, i); !slices.Equal(cachedPages(got.Kernel.Cache), want) {
			t.Errorf("the cache is %v, not %v", got.Kernel.Cache, want)
		}
	}
}

// P111, P113: what other environments have is as it was: their frames, with words, kinds, rights and uses, their rights and tables, and what they see.
func TestPagersLeaveOtherEnvironments(t *testing.T) {
	for i, p := range busyPagers() {
		start := p
		next := series(i)
		for range 30 {
			p = checkStore(t, p, next(64), next(10000))
		}
		for frame, x := range start.Kernel.Infos {
			if x.Kind == 0 || x.Guard == "a" {
				continue
			}
			if p.Kernel.Infos[frame] != x || !slices.Equal(p.Kernel.Memory[frame], start.Kernel.Memory[frame]) {
				t.Errorf("frame %d is changed to %v, with the words %v", frame, p.Kernel.Infos[frame], p.Kernel.Memory[frame])
			}
		}
		for env, e := range start.Kernel.Envs {
			if p.Kernel.Envs[env].Root != e.Root || !slices.Equal(p.Kernel.Envs[env].Rights, e.Rights) {
				t.Errorf("environment %d is changed to %v", env, p.Kernel.Envs[env])
			}
			if env > 0 && !slices.Equal(currentOf(p.Kernel, env), currentOf(start.Kernel, env)) {
				t.Errorf("environment %d sees %v", env, currentOf(p.Kernel, env))
			}
		}
		if !slices.Equal(p.Low, start.Low) || p.Limit != start.Limit {
			t.Errorf("the tables are %v, and the limit is %d", p.Low, p.Limit)
		}
	}
}
