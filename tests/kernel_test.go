package tests

import (
	"slices"
	"testing"

	"loop.example/exopager/impl"
)

// checkNew expects a kernel of zeros, with copies of the rights.
func checkNew(t *testing.T, rights ...[]string) {
	t.Helper()
	want := emptyKernel()
	for env, list := range rights {
		want.Envs[env].Rights = list
	}
	got, ok := impl.KernelNew(rights)
	if !ok || !sameKernel(got, want) {
		t.Errorf("KernelNew(%q) is %s, %t", rights, short(got), ok)
	}
	checkKernel(t, got, true)
	checkKernel(t, want, true)
}

// P63: rights of each number, the empty right, none, and as many as there may be, for each environment.
func TestNewKernels(t *testing.T) {
	for _, a := range writtenRights() {
		for _, b := range writtenRights() {
			for _, c := range writtenRights() {
				checkNew(t, a, b, c)
			}
		}
	}
}

// P63: many rights at each place, beside those of others.
func TestNewKernelsWithManyRights(t *testing.T) {
	all := validRights()
	for i, list := range all {
		other, third := all[(i*31+7)%len(all)], all[(i*53+11)%len(all)]
		checkNew(t, list, other, third)
		checkNew(t, other, list, nil)
		checkNew(t, nil, third, list)
		checkNew(t, list, list, list)
	}
	for _, s := range eachRight {
		checkNew(t, []string{s}, nil, nil)
		checkNew(t, nil, []string{s}, []string{""})
		checkNew(t, []string{"a"}, []string{"b"}, []string{s})
	}
}

// P63, P69, P71: no environment of a new kernel can reach or see anything, and all of it is zero.
func TestNothingIsReachedInANewKernel(t *testing.T) {
	for _, rights := range [][][]string{{nil, nil, nil}, {{""}, {""}, {""}}, {{"a"}, {"b"}, {"c"}}} {
		k, _ := impl.KernelNew(rights)
		if !sameMemory(k.Memory, evenMemory(0)) || impl.InfosFree(k.Infos) != 12 || len(k.Cache) != 0 {
			t.Errorf("the kernel is %s", short(k))
		}
		checkSpaces(t, k)
		for env, e := range k.Envs {
			if e.Root != -1 || !slices.Equal(e.Rights, rights[env]) {
				t.Errorf("environment %d is %v", env, e)
			}
			checkReach(t, k, env)
			for address := -1; address <= 64; address++ {
				checkNotSeen(t, k, env, address)
			}
		}
	}
}

// P64 to P71: what can be reached and seen in a kernel that is written out, with its frames and its environments at each place.
func TestWrittenKernel(t *testing.T) {
	for by := range 36 {
		k := turnedEnvs(turnedKernel(writtenKernel(), by%12), by%3)
		checkKernel(t, k, true)
		for env := range 3 {
			want := []int{}
			for _, frame := range writtenReach(env) {
				want = append(want, (frame+by)%12)
			}
			slices.Sort(want)
			checkReach(t, k, (env+by)%3, want...)
			for number, p := range writtenSpace(env) {
				for at := range 4 {
					if p.code == 0 {
						checkSees(t, k, (env+by)%3, 4*number+at, k.Memory[(p.frame+by)%12][at])
					} else {
						checkNotSeen(t, k, (env+by)%3, 4*number+at)
					}
				}
			}
		}
	}
}

// P70: words of the written kernel, written out: the first and the last word of a frame, of frames that may be written and that may not, and 0.
func TestWordsOfTheWrittenKernel(t *testing.T) {
	k := writtenKernel()
	checkSees(t, k, 0, 0, 51)
	checkSees(t, k, 0, 3, 9999)
	checkSees(t, k, 0, 4, 61)
	checkSees(t, k, 0, 14, 54)
	checkSees(t, k, 0, 44, 1)
	checkSees(t, k, 0, 46, 47)
	checkSees(t, k, 0, 47, 0)
	checkSees(t, k, 0, 63, 9999)
	checkSees(t, k, 1, 20, 81)
	checkSees(t, k, 1, 27, 86)
	checkSees(t, k, 1, 29, 7)
	checkSees(t, k, 1, 32, 61)
	checkSees(t, k, 2, 31, 0)
	checkSees(t, k, 2, 47, 0)
	checkNotSeen(t, k, 0, 8)
	checkNotSeen(t, k, 0, 16)
	checkNotSeen(t, k, 1, 0)
	checkNotSeen(t, k, 1, 16)
	checkNotSeen(t, k, 2, 63)
}

// P64 to P71: the kernels of all tests below are valid, and all that is known of them is what the tables tell.
func TestValidKernels(t *testing.T) {
	rooted, cached, shared := 0, 0, 0
	for _, k := range validKernels() {
		if !kernelHolds(k) {
			t.Fatalf("%s is not valid", short(k))
		}
		checkSpaces(t, k)
		cached += len(k.Cache)
		for env, e := range k.Envs {
			if e.Root != -1 && len(allCurrent(k)) > 0 {
				rooted++
			}
			if e.Root != -1 && e.Root == k.Envs[(env+1)%3].Root {
				shared++
			}
		}
	}
	if rooted < 300 || cached < 300 || shared < 100 {
		t.Errorf("there are %d upper tables, %d translations, and %d upper tables of two environments", rooted, cached, shared)
	}
}

// P64, P65, P66, P67: what holds for each valid kernel, by the functions of the chapters in front.
func TestPromisesOfValidKernels(t *testing.T) {
	for _, k := range validKernels() {
		uses := impl.TableCount(k.Memory, k.Infos)
		for env, e := range k.Envs {
			for _, frame := range impl.KernelReach(k, env) {
				checkMay(t, e.Rights, k.Infos[frame].Guard, true)
			}
			if e.Root != -1 {
				uses[e.Root]++
			}
			for address := range 64 {
				if place, code := impl.Walk(k.Memory, e.Root, address); code == 0 && k.Infos[place.Frame].Kind != 1 {
					t.Errorf("in %s, address %d of %d leads to frame %d", short(k), address, env, place.Frame)
				}
			}
		}
		for frame, x := range k.Infos {
			if x.Kind >= 2 {
				checkOk(t, k.Memory, k.Infos, frame, x.Kind, []string{""}, true)
			}
			if x.Refs != uses[frame] {
				t.Errorf("in %s, frame %d is used %d times", short(k), frame, uses[frame])
			}
		}
		for _, x := range k.Cache {
			for at := range 4 {
				place, code := impl.Walk(k.Memory, k.Envs[x.Env].Root, 4*x.Page+at)
				if code != 0 || place != (impl.Place{Frame: x.Frame, At: at, Write: x.Write}) {
					t.Errorf("in %s, the place of %v is %v, %d", short(k), x, place, code)
				}
			}
		}
	}
}

// P69: what can be reached is the upper table, and the frames of both lists of chapter 3, each once, in ascending order.
func TestReachOfValidKernels(t *testing.T) {
	longest := 0
	for _, k := range validKernels() {
		for env, e := range k.Envs {
			got := impl.KernelReach(k, env)
			if e.Root == -1 {
				checkReach(t, k, env)
				continue
			}
			want := slices.Concat([]int{e.Root}, impl.WalkTables(k.Memory, e.Root), impl.WalkFrames(k.Memory, e.Root))
			slices.Sort(want)
			checkReach(t, k, env, slices.Compact(want)...)
			for i := 1; i < len(got); i++ {
				if got[i-1] >= got[i] {
					t.Errorf("%v does not ascend", got)
				}
			}
			longest = max(longest, len(got))
		}
	}
	if longest < 6 {
		t.Errorf("no more than %d frames are reached", longest)
	}
}

// P70, P71: exactly the addresses are seen to which a walk leads from the upper table, in frames that are reached.
func TestWordsOfValidKernels(t *testing.T) {
	seen := 0
	for _, k := range validKernels() {
		for env, e := range k.Envs {
			reach := impl.KernelReach(k, env)
			for address := -1; address <= 64; address++ {
				place, code := impl.Walk(k.Memory, e.Root, address)
				if code != 0 {
					checkNotSeen(t, k, env, address)
					continue
				}
				seen++
				checkSees(t, k, env, address, k.Memory[place.Frame][place.At])
				if !slices.Contains(reach, place.Frame) {
					t.Errorf("in %s, frame %d is not in %v", short(k), place.Frame, reach)
				}
			}
		}
	}
	if seen < 1000 {
		t.Errorf("only %d words are seen", seen)
	}
}

// treeKernel has the upper tables 0 and 1, the lower tables 2 and 3, data in the frames 4 to 6, and free frames; all environments have all rights, and no upper table.
func treeKernel() impl.Kernel {
	k := allAllowed(emptyKernel())
	for frame, kind := range []int{3, 3, 2, 2, 1, 1, 1} {
		k.Infos[frame] = info(kind, []string{"a", "bc", "", "cccc"}[frame%4], 0)
		k.Memory[frame] = []int{0, 0, 0, 0}
	}
	for at := range 12 {
		k.Memory[4+at/4][at%4] = 400 + at
	}
	return k
}

// withTables is the kernel in which frames have other words, beginning with a frame, and are counted again.
func withTables(k impl.Kernel, first int, words ...[]int) impl.Kernel {
	return recounted(changedKernel(k, func(k *impl.Kernel) {
		for i, list := range words {
			k.Memory[first+i] = slices.Clone(list)
		}
	}))
}

// P69, P71: upper tables that name no lower table, one, both, and one several times, by both entries; lower tables that name nothing, one frame, or several ones.
func TestKernelsOfAllUpperTables(t *testing.T) {
	lows := [][2][]int{
		{{0, 0, 0, 0}, {0, 0, 0, 0}},
		{{17, 0, 0, 0}, {0, 0, 0, 23}},
		{{19, 21, 19, 17}, {0, 0, 0, 0}},
		{{17, 19, 0, 0}, {27, 17, 25, 27}},
		{{27, 27, 27, 27}, {21, 27, 17, 23}},
	}
	for i, words := range fourOf([]int{0, 9, 11, 13, 15}) {
		for j, low := range lows {
			k := withTables(treeKernel(), 0, words, []int{15, 0, 9, 0}, low[0], low[1])
			k = turnedKernel(withRoot(k, j%3, 0), i%12)
			if i%5 == 0 {
				checkSpaces(t, k)
			}
			checkKernel(t, k, true)
			checkReach(t, k, j%3, reachedFrom(k.Memory, i%12)...)
			checkReach(t, k, (j+1)%3)
			for number := range 16 {
				if p := pageIn(k, j%3, number); p.code == 0 {
					checkSees(t, k, j%3, 4*number+i%4, k.Memory[p.frame][i%4])
				} else {
					checkNotSeen(t, k, j%3, 4*number+i%4)
				}
			}
		}
	}
}

// P69, P71: lower tables with all words that name nothing, one frame or several ones, by both entries, which other lower tables name, too.
func TestKernelsOfAllLowerTables(t *testing.T) {
	for i, words := range fourOf([]int{0, 17, 19, 21, 27}) {
		k := withTables(treeKernel(), 0, []int{0, 11, 9, 15}, []int{13, 0, 0, 9}, words, []int{19, 0, 0, 25})
		k = turnedKernel(withRoot(withRoot(k, i%3, 0), (i+1)%3, 1), i%12)
		checkSpaces(t, k)
	}
}

// P63, P66, P69: no environment, one, two and all of them with an upper table, each one its own, and some the same one.
func TestKernelsOfAllRoots(t *testing.T) {
	k := withTables(treeKernel(), 0, []int{9, 0, 15, 0}, []int{0, 15, 0, 0}, []int{19, 21, 0, 0}, []int{0, 23, 25, 0})
	k.Infos[7], k.Memory[7] = info(3, "b", 0), []int{11, 11, 11, 11}
	k = recounted(k)
	for _, first := range []int{-1, 0, 1, 7} {
		for _, second := range []int{-1, 0, 1, 7} {
			for _, third := range []int{-1, 0, 1, 7} {
				x := withRoot(withRoot(withRoot(k, 0, first), 1, second), 2, third)
				many := 0
				for _, root := range []int{first, second, third} {
					if root == 7 {
						many++
					}
				}
				if x.Infos[7].Refs != many {
					t.Fatalf("frame 7 is %v", x.Infos[7])
				}
				for by := range 12 {
					checkSpaces(t, turnedKernel(x, by))
				}
			}
		}
	}
}

// P64, P69: seven to nine frames that can be reached, with four lower tables, in any order.
func TestKernelsWithManyFrames(t *testing.T) {
	k := allAllowed(emptyKernel())
	for frame := range 12 {
		k.Infos[frame] = info([]int{1, 2, 1, 2, 1, 3, 1, 2, 1, 2, 1, 1}[frame], "b", 0)
	}
	k.Memory[5] = []int{39, 29, 13, 7}
	k.Memory[9], k.Memory[7] = []int{45, 41, 33, 25}, []int{17, 9, 1, 3}
	k.Memory[3], k.Memory[1] = []int{47, 43, 35, 27}, []int{19, 11, 3, 0}
	k = withRoot(k, 1, 5)
	checkReach(t, k, 1, 0, 1, 2, 3, 4, 5, 6, 7, 8, 9, 10, 11)
	checkSpaces(t, k)
	for by := range 12 {
		checkSpaces(t, turnedKernel(withKernelWord(k, 5, by%4, 0), by))
		checkSpaces(t, turnedKernel(withTables(k, 7, []int{0, 0, 0, 0}), by))
	}
}

// P65, P66: words of frames that are no tables may be anything, and those of tables that nobody uses are those of tables, too.
func TestKernelsWithAnyWordsOfOtherFrames(t *testing.T) {
	k := writtenKernel()
	for word := range 10000 {
		frame, at := []int{5, 9, 10}[word%3], word/3%4
		x := changedKernel(k, func(k *impl.Kernel) { k.Memory[frame][at] = word })
		checkKernel(t, x, true)
		if frame == 5 {
			checkSees(t, x, 0, at, word)
		}
	}
	for by := range 12 {
		for _, frame := range []int{5, 6, 7, 8, 9, 10} {
			for _, word := range append(badEntries(), entriesOf...) {
				x := changedKernel(k, func(k *impl.Kernel) { k.Memory[frame] = []int{word, word, word, word} })
				checkKernel(t, turnedKernel(x, by), true)
			}
		}
	}
	for _, m := range append(memories(), spaces()...) {
		checkSpaces(t, changedKernel(emptyKernel(), func(k *impl.Kernel) { k.Memory = m }))
		checkSpaces(t, changedKernel(emptyKernel(), func(k *impl.Kernel) { k.Memory, k.Infos = m, dataInfos() }))
	}
}

// P64 to P67: many kernels with one change or two, of any kind, of which some are valid and some are not.
func TestKernelsWithAnyChanges(t *testing.T) {
	done := map[bool]int{}
	for number := range 40000 {
		next := series(number)
		k := generatedKernel(number % 400)
		for range 1 + next(2) {
			k = changedKernel(k, func(k *impl.Kernel) { spoilPart(k, next) })
		}
		if next(2) == 0 {
			k = recounted(k)
		}
		want := kernelHolds(k)
		done[want]++
		checkKernel(t, k, want)
	}
	if done[true] < 5000 || done[false] < 5000 {
		t.Errorf("valid and invalid are %v", done)
	}
}

// spoilPart makes one change of a kernel, which keeps it valid or not.
func spoilPart(k *impl.Kernel, next func(int) int) {
	frame, at, env := next(12), next(4), next(3)
	switch next(9) {
	case 0:
		k.Memory[frame][at] = []int{0, entriesOf[next(24)], entriesOf[next(24)], badEntries()[next(24)]}[next(4)]
	case 1:
		k.Infos[frame] = frameOf(next(4), k.Infos[frame].Guard, k.Infos[frame].Refs)
	case 2:
		k.Infos[frame] = frameOf(k.Infos[frame].Kind, guardsOfMany()[next(10)], k.Infos[frame].Refs)
	case 3:
		k.Infos[frame].Refs += []int{-1, 1}[next(2)]
	case 4:
		k.Envs[env].Root = next(13) - 1
	case 5:
		k.Envs[env].Rights = [][]string{nil, {""}, {"a"}, {"a", "b"}, {"a", "b", "c"}, {eachRight[next(121)]}}[next(6)]
	case 6:
		if len(k.Cache) > 0 {
			k.Cache = slices.Delete(k.Cache, 0, 1)
		}
	case 7:
		if all := allCurrent(*k); len(all) > 0 && partsHold(*k) {
			k.Cache = append(k.Cache, all[next(len(all))])
		}
	case 8:
		if len(k.Cache) > 0 {
			x := &k.Cache[next(len(k.Cache))]
			*x = []impl.Cached{{Env: env, Page: x.Page, Frame: x.Frame, Write: x.Write}, {Env: x.Env, Page: next(16), Frame: x.Frame, Write: x.Write}, {Env: x.Env, Page: x.Page, Frame: frame, Write: x.Write}, {Env: x.Env, Page: x.Page, Frame: x.Frame, Write: !x.Write}}[next(4)]
		}
	}
}

// P69, P71: environments and addresses next to the first and the last one, for those that have an upper table and those that have none.
func TestEdgesOfEnvironmentsAndAddresses(t *testing.T) {
	k := withTables(treeKernel(), 0, []int{11, 0, 0, 15}, []int{0, 0, 0, 0}, []int{19, 0, 0, 0}, []int{0, 0, 0, 21})
	all := withRoot(withRoot(withRoot(k, 0, 0), 1, 0), 2, 0)
	for env := range 3 {
		checkReach(t, all, env, 0, 2, 3, 4, 5)
		checkSees(t, all, env, 0, 400)
		checkSees(t, all, env, 3, 403)
		checkNotSeen(t, all, env, 4)
		checkNotSeen(t, all, env, 16)
		checkNotSeen(t, all, env, 59)
		checkSees(t, all, env, 60, 404)
		checkSees(t, all, env, 63, 407)
		checkNotSeen(t, all, env, -1)
		checkNotSeen(t, all, env, 64)
		one := withRoot(k, env, 0)
		checkReach(t, one, (env+1)%3)
		checkReach(t, one, (env+2)%3)
		checkNotSeen(t, one, (env+1)%3, 0)
		checkNotSeen(t, one, (env+2)%3, 63)
	}
	for _, env := range []int{-1, 3} {
		checkReach(t, all, env)
		for address := -1; address <= 64; address++ {
			checkNotSeen(t, all, env, address)
		}
	}
}

// P71: walks that end at the upper table, at each first part, and those that end at the lower one, at each second part.
func TestWordsWithoutTables(t *testing.T) {
	for env := range 3 {
		for number := range 16 {
			top, low := number/4, number%4
			start := withTables(treeKernel(), 0, []int{9, 9, 9, 9}, []int{0, 0, 0, 0}, []int{17, 17, 17, 17})
			start = withRoot(start, env, 0)
			noTop := withKernelWord(start, 0, top, 0)
			noLow := withKernelWord(start, 2, low, 0)
			for other := range 16 {
				for at := range 4 {
					checkSees(t, start, env, 4*other+at, 400+at)
					if other/4 == top {
						checkNotSeen(t, noTop, env, 4*other+at)
					} else {
						checkSees(t, noTop, env, 4*other+at, 400+at)
					}
					if other%4 == low {
						checkNotSeen(t, noLow, env, 4*other+at)
					} else {
						checkSees(t, noLow, env, 4*other+at, 400+at)
					}
				}
			}
		}
	}
}
