package tests

import (
	"slices"
	"testing"

	"loop.example/exopager/impl"
)

// takingKernel has environments with all rights, with some, and with none; data that is not used, under many rights, but for the frames that are free; and words in all frames.
func takingKernel(free ...int) impl.Kernel {
	k := withRights(withRights(emptyKernel(), 0, ""), 1, "a", "bc", "ca")
	return changedKernel(k, func(k *impl.Kernel) { k.Memory, k.Infos = someMemory(), withFree(dataInfos(), free...) })
}

// P78, P79: each name that is a right, by an environment with all rights, with some, and with none.
func TestTakesOfEachRight(t *testing.T) {
	k := takingKernel(4, 9)
	for _, s := range eachRight {
		for env := range 3 {
			if !mayBy(k.Envs[env].Rights, s) {
				checkRefused(t, k, takeCall(env, s), 1)
				checkRefused(t, takingKernel(), takeCall(env, s), 1)
				continue
			}
			checkDone(t, k, takeCall(env, s), 4, func(k *impl.Kernel) { k.Infos[4], k.Memory[4] = info(1, s, 0), []int{0, 0, 0, 0} })
			checkRefused(t, takingKernel(), takeCall(env, s), 4)
		}
	}
}

// P79: rights of each number: the right itself, a longer one, a shorter one, the empty one, and others.
func TestTakesWithManyRights(t *testing.T) {
	for i, list := range append(writtenRights(), mixedRights()...) {
		k := withRights(takingKernel(i%12), i%3, list...)
		for j, s := range append(slices.Clone(list), "", eachRight[i*7%121], eachRight[i*31%121], "b", "cccc") {
			for _, name := range []string{s, s + "a", s[:len(s)/2]} {
				switch {
				case len(name) > 4:
					checkRefused(t, k, takeCall(i%3, name), 3)
				case mayBy(list, name):
					checkCode(t, k, takeCall(i%3, name), 0)
				default:
					checkRefused(t, k, takeCall(i%3, name), 1)
				}
			}
			if j < len(list) && len(s) < 4 {
				checkCode(t, k, takeCall(i%3, s+"b"), 0)
			}
		}
	}
}

// P79: names that are no rights, whatever the environment has.
func TestTakesOfNoRight(t *testing.T) {
	k, full := takingKernel(0, 11), takingKernel()
	for i, s := range badTexts() {
		if i%7 == 0 {
			checkRefused(t, k, takeCall(i%3, s), 3)
			checkRefused(t, full, takeCall((i+1)%3, s), 3)
		}
	}
	for _, s := range someBadTexts() {
		for env := range 3 {
			checkRefused(t, k, takeCall(env, s), 3)
			checkRefused(t, full, takeCall(env, s), 3)
		}
	}
}

// P78: each set of free frames: the first one is taken, wherever it is; its words, which were others before, become 0.
func TestTakesOfAllSetsOfFreeFrames(t *testing.T) {
	for n := range 4096 {
		frames := framesOfNumber(n)
		k := takingKernel(frames...)
		if len(frames) == 0 {
			checkRefused(t, k, takeCall(0, "ab"), 4)
			continue
		}
		first := frames[0]
		checkDone(t, k, takeCall(n%2, "ab"), first, func(k *impl.Kernel) {
			k.Infos[first], k.Memory[first] = info(1, "ab", 0), []int{0, 0, 0, 0}
		})
	}
}

// P78: frames that are taken until none is free, and given back, in a kernel with tables; a frame that was given has its words, until it is taken again.
func TestTakesAndGivesOneAfterTheOther(t *testing.T) {
	for env := range 3 {
		k := withRights(withTables(treeKernel(), 7, []int{1, 2, 3, 4}, []int{9999, 9999, 9999, 9999}), env, "", "a")
		for frame := 7; frame < 12; frame++ {
			checkDone(t, k, takeCall(env, "abc"), frame, func(k *impl.Kernel) { k.Infos[frame], k.Memory[frame] = info(1, "abc", 0), []int{0, 0, 0, 0} })
			k, _ = callNow(t, k, takeCall(env, "abc"))
			k, _ = callNow(t, k, pokeCall(env, frame, frame%4, 5000+frame))
		}
		checkRefused(t, k, takeCall(env, ""), 4)
		for _, frame := range []int{9, 4, 11} {
			words := slices.Clone(k.Memory[frame])
			checkDone(t, k, giveCall(env, frame), 0, func(k *impl.Kernel) { k.Infos[frame] = impl.Info{} })
			k, _ = callNow(t, k, giveCall(env, frame))
			if !slices.Equal(k.Memory[frame], words) {
				t.Errorf("the words of frame %d are %v, not %v", frame, k.Memory[frame], words)
			}
			checkRefused(t, k, giveCall(env, frame), 3)
			checkRefused(t, k, pokeCall(env, frame, 0, 0), 3)
		}
		checkDone(t, k, takeCall(env, "c"), 4, func(k *impl.Kernel) { k.Infos[4], k.Memory[4] = info(1, "c", 0), []int{0, 0, 0, 0} })
	}
}

// checkFrames expects the codes of a call of each frame, from -1 to 12.
func checkFrames(t *testing.T, name string, k impl.Kernel, call func(frame int) impl.Call, codes ...int) {
	t.Helper()
	for frame := -1; frame <= 12; frame++ {
		if code := codes[frame+1]; code != 0 {
			checkRefused(t, k, call(frame), code)
		} else {
			checkCode(t, k, call(frame), 0)
		}
	}
	if t.Failed() {
		t.Fatalf("with %s", name)
	}
}

// P80, P81, P82: each frame of orderKernel, from -1 to the one behind the last one, by the environments 0 to 2, of which the last one has all rights here. The codes are written out.
func TestWrittenCodesOfFrames(t *testing.T) {
	k := withRights(orderKernel(), 2, "")
	gives := [][]int{{3, 3, 3, 3, 3, 2, 0, 0, 1, 1, 3, 3, 3, 3}, {3, 1, 1, 1, 1, 1, 1, 1, 2, 3, 1, 3, 3, 3}, {3, 3, 3, 3, 3, 2, 0, 0, 2, 3, 3, 3, 3, 3}}
	pokes := [][]int{{3, 3, 3, 3, 3, 0, 0, 0, 1, 1, 3, 3, 3, 3}, {3, 1, 1, 1, 1, 1, 1, 1, 0, 3, 1, 3, 3, 3}, {3, 3, 3, 3, 3, 0, 0, 0, 0, 3, 3, 3, 3, 3}}
	pins := [][]int{{3, 2, 2, 2, 2, 2, 0, 3, 1, 1, 2, 3, 3, 3}, {3, 1, 1, 1, 1, 1, 1, 1, 2, 2, 1, 3, 3, 3}, {3, 2, 2, 2, 2, 2, 0, 3, 2, 2, 2, 3, 3, 3}}
	unpins := [][]int{{3, 2, 0, 2, 0, 2, 2, 2, 1, 1, 0, 3, 3, 3}, {3, 1, 1, 1, 1, 1, 1, 1, 2, 0, 1, 3, 3, 3}, {3, 2, 0, 2, 0, 2, 2, 2, 2, 0, 0, 3, 3, 3}}
	sets := [][]int{{3, 0, 0, 0, 0, 3, 3, 3, 1, 1, 0, 3, 3, 3}, {3, 1, 1, 1, 1, 1, 1, 1, 3, 0, 1, 3, 3, 3}, {3, 0, 0, 0, 0, 3, 3, 3, 3, 0, 0, 3, 3, 3}}
	for env := range 3 {
		checkFrames(t, "CallGive", k, func(frame int) impl.Call { return giveCall(env, frame) }, gives[env]...)
		for at := range 4 {
			checkFrames(t, "CallPoke", k, func(frame int) impl.Call { return pokeCall(env, frame, at, []int{0, 9999, 1, 5}[at]) }, pokes[env]...)
			checkFrames(t, "CallSet", k, func(frame int) impl.Call { return setCall(env, frame, at, 0) }, sets[env]...)
		}
		for kind := 2; kind <= 3; kind++ {
			checkFrames(t, "CallPin", k, func(frame int) impl.Call { return pinCall(env, frame, kind) }, pins[env]...)
		}
		checkFrames(t, "CallUnpin", k, func(frame int) impl.Call { return unpinCall(env, frame) }, unpins[env]...)
	}
}

// P80 to P83: frames far away, and those that look like one if only a part of the number is kept.
func TestCallsOfNoFrame(t *testing.T) {
	k := allAllowed(withTables(treeKernel(), 4, []int{0, 0, 0, 0}))
	for i, frame := range noneOf(12) {
		for kind := 2; kind <= 7; kind++ {
			if frame != -1 || kind < 7 {
				checkRefused(t, k, impl.Call{Kind: kind, Env: i % 3, A: frame, B: 2, C: 0, Name: "a"}, 3)
			}
		}
	}
}

// P81: each place of each frame with data, with each word at the edges, and with many others; all else remains, and so do translations.
func TestPokesOfAllPlaces(t *testing.T) {
	k := withRights(orderKernel(), 2, "a", "b")
	for frame := 4; frame <= 7; frame++ {
		for at := range 4 {
			for _, word := range []int{0, 1, 5, 47, 1234, 9998, 9999} {
				checkDone(t, k, pokeCall(2, frame, at, word), 0, func(k *impl.Kernel) { k.Memory[frame][at] = word })
			}
			for _, word := range badWords() {
				checkRefused(t, k, pokeCall(2, frame, at, word), 3)
			}
		}
		for _, at := range append(badWords(), 4, 5, 8, 12, 256, 259) {
			checkRefused(t, k, pokeCall(2, frame, at, 7), 3)
			checkRefused(t, k, pokeCall(2, frame, at, -1), 3)
		}
	}
	for word := range 10000 {
		checkCode(t, k, pokeCall(0, 4+word%3, word/3%4, word), 0)
	}
}

// P81: a poke of a frame that an environment sees is seen by it, even where it can only be read, and each translation stays.
func TestPokesAreSeen(t *testing.T) {
	k := orderKernel()
	after, code := callNow(t, k, pokeCall(0, 4, 2, 777))
	if code != 0 || !slices.Equal(after.Cache, k.Cache) {
		t.Errorf("the code is %d, and the cache %v", code, after.Cache)
	}
	checkSees(t, after, 0, 2, 777)
	checkSees(t, after, 0, 38, 777)
	checkSees(t, after, 0, 1, 2)
}

// P82: each frame of kernels with all kinds of frames becomes a table and data again, if it can; then all is as it was.
func TestPinsAndUnpinsOfAllFrames(t *testing.T) {
	done := [4]int{}
	for number := range 300 {
		next := series(number)
		k := withGoodWords(generatedKernel(number), next)
		for frame := range 12 {
			for kind := range 5 {
				after, code := callNow(t, k, pinCall(number%3, frame, kind))
				if code != 0 {
					continue
				}
				done[kind]++
				back, code := callNow(t, after, unpinCall(number%3, frame))
				if code != 0 || !sameKernel(back, k) {
					t.Errorf("in %s, frame %d is unpinned to %s, %d", short(k), frame, short(back), code)
				}
			}
			after, code := callNow(t, k, unpinCall(number%3, frame))
			if code == 0 {
				back, code := callNow(t, after, pinCall(number%3, frame, k.Infos[frame].Kind))
				if code == 0 && !sameKernel(back, k) {
					t.Errorf("in %s, frame %d is pinned to %s", short(k), frame, short(back))
				}
			}
		}
	}
	if done[2] < 50 || done[3] < 50 {
		t.Errorf("the pins that are done are, by their kinds, %v", done)
	}
}

// P82: the rights for what the words name count, and not only that for the frame itself; for an unpin, they do not.
func TestPinsUnderOtherRights(t *testing.T) {
	for _, guard := range []string{"", "a", "ab", "abca", "b"} {
		for _, list := range writtenRights() {
			k := withRights(orderKernel(), 1, list...)
			k.Infos[5].Guard, k.Infos[3].Guard = guard, guard
			k.Memory[8], k.Memory[6] = []int{0, 0, 0, 23}, []int{0, 23, 0, 21}
			k = withKernelInfo(recounted(k), 6, info(1, "c", 0))
			code := 3
			switch {
			case !mayBy(list, "c"):
				code = 1
			case mayBy(list, guard):
				code = 0
			}
			checkCode(t, k, pinCall(1, 6, 2), code)
			checkCode(t, withTables(k, 6, []int{13, 0, 15, 0}), pinCall(1, 6, 3), code)
			code = 1
			if mayBy(list, "b") {
				code = 0
			}
			checkCode(t, k, unpinCall(1, 8), code)
		}
	}
}
