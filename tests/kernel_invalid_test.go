package tests

import (
	"slices"
	"strconv"
	"testing"

	"loop.example/exopager/impl"
)

// P63: too few and too many rights, of which all are valid.
func TestNewKernelsOfOtherNumbers(t *testing.T) {
	checkNoNew(t, nil)
	checkNoNew(t, [][]string{})
	for _, many := range []int{1, 2, 4, 5, 6, 12, 255, 256, 257, 259, 65536, 65539} {
		checkNoNew(t, make([][]string, many))
		checkNoNew(t, slices.Repeat([][]string{{"a"}}, many))
	}
	checkNoNew(t, [][]string{{"a"}, {"b"}})
	checkNoNew(t, [][]string{{"a"}, {"b"}, {"c"}, {"cc"}})
	checkNoNew(t, [][]string{{"a", "b", "c"}})
	checkNoNew(t, [][]string{{"a"}, {"b"}, {"c"}, {"d"}})
	checkNoNew(t, [][]string{{"d"}, {"b"}})
	checkNew(t, nil, nil, nil)
	checkNew(t, []string{}, []string{}, []string{})
}

func checkNoNew(t *testing.T, rights [][]string) {
	t.Helper()
	if k, ok := impl.KernelNew(rights); ok || len(k.Memory)+len(k.Infos)+len(k.Envs)+len(k.Cache) > 0 {
		t.Errorf("KernelNew(%s) is %s, %t", short(rights), short(k), ok)
	}
}

// P63: invalid rights of each kind, at each place, at two places and at all.
func TestNewKernelsWithInvalidRights(t *testing.T) {
	for i, x := range invalidRights() {
		good := writtenRights()[i%21]
		checkNoNew(t, [][]string{x.list, good, nil})
		checkNoNew(t, [][]string{nil, x.list, good})
		checkNoNew(t, [][]string{good, nil, x.list})
		checkNoNew(t, [][]string{x.list, good, x.list})
		checkNoNew(t, [][]string{x.list, x.list, x.list})
	}
	for i, bad := range badTexts() {
		rights := [][]string{{"a"}, nil, {""}}
		rights[i%3] = []string{bad}
		checkNoNew(t, rights)
	}
}

type namedKernel struct {
	name string
	k    impl.Kernel
}

// badMemories are writtenKernels with one fault in the memory: a word out of range, a frame with too few or too many words, and too few or too many frames.
func badMemories() []namedKernel {
	all := []namedKernel{}
	add := func(name string, m [][]int) {
		all = append(all, namedKernel{name, changedKernel(writtenKernel(), func(k *impl.Kernel) { k.Memory = m })})
	}
	m := writtenKernel().Memory
	for frame := range 12 {
		at := strconv.Itoa(frame)
		for place := range 4 {
			for _, word := range badWords() {
				add("the word "+strconv.Itoa(word)+" in frame "+at, withWord(m, frame, place, word))
			}
		}
		add("no words in frame "+at, with(m, frame))
		add("too few words in frame "+at, with(m, frame, m[frame][:3]...))
		add("too many words in frame "+at, with(m, frame, append(slices.Clone(m[frame]), 0)...))
		add("without frame "+at, slices.Delete(copyOf(m), frame, frame+1))
		add("with frame "+at+" twice", slices.Insert(copyOf(m), frame, m[frame]))
	}
	add("a frame too many", append(copyOf(m), []int{0, 0, 0, 0}))
	add("12 frames too many", append(copyOf(m), m...))
	add("no memory", nil)
	add("no frames", [][]int{})
	add("no words", make([][]int, 12))
	return all
}

// badLists are writtenKernels with one fault in what is known of frames.
func badLists() []namedKernel {
	all := []namedKernel{}
	add := func(name string, list []impl.Info) {
		all = append(all, namedKernel{name, changedKernel(writtenKernel(), func(k *impl.Kernel) { k.Infos = list })})
	}
	list := writtenKernel().Infos
	for frame, x := range list {
		at := " at frame " + strconv.Itoa(frame)
		for _, kind := range badKinds() {
			add("a bad kind"+at, withInfo(list, frame, info(kind, x.Guard, x.Refs)))
		}
		for _, guard := range someBadTexts() {
			add("a bad right"+at, withInfo(list, frame, info(x.Kind, guard, x.Refs)))
		}
		for _, refs := range badRefs() {
			add("bad uses"+at, withInfo(list, frame, info(x.Kind, x.Guard, refs)))
		}
		add("none"+at, slices.Delete(slices.Clone(list), frame, frame+1))
		add("one more"+at, slices.Insert(slices.Clone(list), frame, x))
	}
	for _, x := range freeFaults() {
		add("a fault of the free frame", withInfo(list, 10, x))
	}
	add("one behind the last", append(slices.Clone(list), impl.Info{}))
	add("no list", nil)
	add("an empty list", []impl.Info{})
	return all
}

// badCaches are writtenKernels with one fault in the cache, whose translations are all right, as far as they can be.
func badCaches() []namedKernel {
	all := []namedKernel{}
	add := func(name string, c ...impl.Cached) {
		all = append(all, namedKernel{name, withCache(writtenKernel(), c...)})
	}
	right := allCurrent(writtenKernel())
	for many := 5; many <= len(right); many++ {
		add(strconv.Itoa(many)+" translations", right[:many]...)
		add("the last "+strconv.Itoa(many)+" translations", right[len(right)-many:]...)
	}
	for _, length := range []int{1, 2, 3} {
		for i := 0; i+length <= len(right); i += length {
			for from := range length {
				for to := range length + 1 {
					add("a translation twice", slices.Insert(slices.Clone(right[i:i+length]), to, right[i+from])...)
				}
			}
		}
	}
	start := writtenKernel().Cache
	for at, x := range start {
		for _, bad := range edgeFaults(x) {
			c := slices.Clone(start)
			c[at] = bad
			add("a fault at "+strconv.Itoa(at), c...)
			add("a fault alone", bad)
		}
	}
	return all
}

// P64 to P71: an invalid memory, list or cache, each alone. What is wrong lies in any frame and at any place of the cache, and need not be what is asked for.
func TestKernelsWithInvalidParts(t *testing.T) {
	for _, x := range slices.Concat(badMemories(), badLists(), badCaches()) {
		checkNoKernel(t, x.name, x.k)
	}
}

// P64, P66, P67: all invalid memories, lists and caches of the chapters in front, in a kernel that has nothing else.
func TestEmptyKernelsWithInvalidParts(t *testing.T) {
	for _, x := range invalidMemories() {
		checkNoKernel(t, x.name, changedKernel(emptyKernel(), func(k *impl.Kernel) { k.Memory = x.m }))
	}
	for _, x := range invalidInfos() {
		checkKernel(t, changedKernel(emptyKernel(), func(k *impl.Kernel) { k.Infos = x.list }), false)
	}
	for _, x := range invalidCaches() {
		checkKernel(t, withCache(emptyKernel(), x.c...), false)
		checkKernel(t, withCache(writtenKernel(), x.c...), false)
	}
}

// P64: more and fewer environments, of which each one is as it has to be, and is counted where it has an upper table.
func TestKernelsWithOtherEnvironments(t *testing.T) {
	for _, start := range []impl.Kernel{emptyKernel(), withCache(writtenKernel()), withCache(treeKernel())} {
		for many := range 8 {
			k := changedKernel(start, func(k *impl.Kernel) { k.Envs = slices.Concat(k.Envs, k.Envs, k.Envs)[:many] })
			if many != 3 {
				checkNoKernel(t, strconv.Itoa(many)+" environments", k)
				checkNoKernel(t, strconv.Itoa(many)+" environments, counted", recounted(k))
			}
		}
		for _, e := range []impl.Env{{}, {Root: -1}, {Rights: []string{""}, Root: -1}, {Rights: []string{""}, Root: 0}, {Rights: []string{"d"}, Root: 12}} {
			for at := range 4 {
				k := changedKernel(start, func(k *impl.Kernel) { k.Envs = slices.Insert(k.Envs, at, e) })
				checkNoKernel(t, "one environment more", k)
				checkNoKernel(t, "one environment more, counted", recounted(k))
			}
		}
		for at := range 3 {
			k := changedKernel(start, func(k *impl.Kernel) { k.Envs = slices.Delete(k.Envs, at, at+1) })
			checkNoKernel(t, "one environment less", k)
			checkNoKernel(t, "one environment less, counted", recounted(k))
		}
		for _, many := range []int{256, 259, 65536, 65539} {
			k := changedKernel(start, func(k *impl.Kernel) { k.Envs = slices.Repeat([]impl.Env{{Root: -1}}, many) })
			checkKernel(t, recounted(k), false)
		}
	}
}

// P64: invalid rights of each kind, of each environment, whether it has an upper table or not.
func TestKernelsWithInvalidRights(t *testing.T) {
	for i, x := range invalidRights() {
		checkKernel(t, withRights(emptyKernel(), i%3, x.list...), false)
		checkKernel(t, withRights(writtenKernel(), i%3, x.list...), false)
		checkKernel(t, withRights(allAllowed(emptyKernel()), i%3, x.list...), false)
		if i%200 == 0 {
			checkNoKernel(t, x.name, withRights(writtenKernel(), i%3, x.list...))
		}
	}
	for env := range 3 {
		for _, bad := range someBadTexts() {
			list := []string{"", bad}
			slices.Sort(list)
			checkNoKernel(t, "the right "+strconv.Quote(bad), withRights(writtenKernel(), env, list...))
			checkNoKernel(t, "the right "+strconv.Quote(bad), withRights(withRoot(writtenKernel(), env, -1), env, bad))
		}
		checkNoKernel(t, "a right twice", withRights(writtenKernel(), env, "", ""))
		checkNoKernel(t, "rights in another order", withRights(writtenKernel(), env, "a", ""))
		checkNoKernel(t, "too many rights", withRights(writtenKernel(), env, "", "a", "aa", "aaa", "aaaa", "ab", "b"))
	}
}

// P66: upper tables at frames of each kind, which are counted; only those of the kind of an upper table are right. The frames have only zeros, so that nothing else is wrong.
func TestKernelsWithRootsOfEachKind(t *testing.T) {
	for frame := range 12 {
		for kind := range 4 {
			for env := range 3 {
				start := withKernelInfo(allAllowed(emptyKernel()), frame, frameOf(kind, "ab", 0))
				checkKernel(t, start, true)
				k := changedKernel(start, func(k *impl.Kernel) { k.Envs[env].Root = frame })
				checkNoKernel(t, "a root that is not counted", k)
				checkKernel(t, recounted(k), kind == 3)
				other := withRoot(withRoot(k, (env+1)%3, frame), (env+2)%3, frame)
				checkKernel(t, other, kind == 3)
				if kind < 3 {
					checkNoKernel(t, "a root of kind "+strconv.Itoa(kind), recounted(k))
					checkNoKernel(t, "three roots of kind "+strconv.Itoa(kind), other)
					checkNoKernel(t, "a root that is used", withKernelInfo(k, frame, info(kind, "", 1)))
				}
			}
		}
	}
	for _, frame := range []int{1, 2, 4, 5, 6, 7, 8, 9, 10, 11} {
		for env := range 3 {
			checkNoKernel(t, "a root that is no upper table", withRoot(allAllowed(writtenKernel()), env, frame))
		}
	}
}

// P66: upper tables that do not exist, next to -1 and to the last frame, and far away.
func TestKernelsWithRootsOutOfRange(t *testing.T) {
	for i, root := range noneOf(12) {
		k := changedKernel(allAllowed(emptyKernel()), func(k *impl.Kernel) { k.Envs[i%3].Root = root })
		checkKernel(t, k, root == -1)
	}
	for _, root := range append(badWords(), -3, 12, 13, 16, 48, 1<<32+11, 1<<32-1) {
		if root == -1 {
			continue
		}
		for env := range 3 {
			checkNoKernel(t, "the root "+strconv.Itoa(root), changedKernel(allAllowed(emptyKernel()), func(k *impl.Kernel) { k.Envs[env].Root = root }))
			checkNoKernel(t, "the root "+strconv.Itoa(root), withRoot(allAllowed(writtenKernel()), env, root))
		}
	}
	for env := range 3 {
		checkSpaces(t, withRoot(writtenKernel(), env, -1))
	}
}

// guardedKernel has frames that an environment can reach, each of which needs a right of its own: an upper table, two lower tables, and data of which the last frame is
// named by both. All others are under rights that nobody has.
func guardedKernel(env int) impl.Kernel {
	k := withRights(emptyKernel(), env, "aa", "ab", "ac", "ba", "bb", "bc")
	for frame, kind := range []int{3, 2, 2, 1, 1, 1, 1, 2, 3} {
		k.Infos[frame] = info(kind, []string{"ba", "ac", "bc", "aa", "bb", "ab", "cc", "c", "ca"}[frame], 0)
	}
	k.Memory[0], k.Memory[1], k.Memory[2] = []int{0, 7, 0, 9}, []int{13, 0, 23, 0}, []int{0, 21, 0, 19}
	k.Memory[7], k.Memory[8] = []int{25, 0, 0, 15}, []int{0, 11, 31, 0}
	return withRoot(k, env, 0)
}

// unreached is guardedKernel without what leads to a frame.
func unreached(env int, frame int) impl.Kernel {
	k := guardedKernel(env)
	switch frame {
	case 0:
		return withRoot(k, env, -1)
	case 1:
		return withKernelWord(k, 0, 1, 0)
	case 2:
		return withKernelWord(k, 0, 3, 0)
	case 3:
		return withKernelWord(k, 1, 0, 0)
	case 4:
		return withKernelWord(k, 2, 3, 0)
	}
	return withKernelWord(withKernelWord(k, 1, 2, 0), 2, 1, 0)
}

// P64: a right that is missing, for each frame that can be reached; and for the same frame when it cannot.
func TestKernelsWithMissingRights(t *testing.T) {
	for i := range 36 {
		env, by := i%3, i%12
		start := guardedKernel(env)
		checkSpaces(t, turnedKernel(start, by))
		for frame := range 6 {
			guard := start.Infos[frame].Guard
			rights := slices.DeleteFunc(slices.Clone(start.Envs[env].Rights), func(s string) bool { return s == guard })
			checkNoKernel(t, "without the right for frame "+strconv.Itoa(frame), turnedKernel(withRights(start, env, rights...), by))
			checkNoKernel(t, "with a longer right", turnedKernel(withRights(start, env, addedTo(rights, guard+"a")...), by))
			checkSpaces(t, turnedKernel(withRights(start, env, addedTo(rights, guard)...), by))
			checkSpaces(t, turnedKernel(withRights(start, env, addedTo(rights, guard[:1])...), by))
			checkSpaces(t, turnedKernel(withRights(start, env, addedTo(rights, "")...), by))
			checkSpaces(t, turnedKernel(withRights(unreached(env, frame), env, rights...), by))
			other := withRights(withRights(start, env, rights...), (env+1)%3, guard, guard+"c")
			checkNoKernel(t, "with the right for another environment", turnedKernel(other, by))
			checkKernel(t, turnedKernel(withKernelInfo(start, frame, info(start.Infos[frame].Kind, "", start.Infos[frame].Refs)), by), false)
		}
	}
}

// P64: no rights at all, and each right alone, for one frame of each kind under each right; the empty right is needed for a frame without a right.
func TestKernelsUnderEachRight(t *testing.T) {
	for i, guard := range eachRight {
		for j, right := range eachRight {
			k := withTables(treeKernel(), 0, []int{9, 0, 0, 0}, []int{0, 0, 0, 0}, []int{19, 0, 0, 0})
			k = withRoot(k, 1, 0)
			frame := []int{0, 2, 4}[(i+j)%3]
			for _, other := range []int{0, 2, 4} {
				k.Infos[other].Guard = right
			}
			k.Infos[frame].Guard = guard
			k = withRights(k, 1, right)
			checkKernel(t, k, includes[[2]string{right, guard}])
			if j == 0 {
				checkNoKernel(t, "no rights", withRights(k, 1))
			}
		}
	}
}

// P64: an upper table of two environments, of which only one has the rights, or each one some of them; and as many as three.
func TestKernelsOfEnvironmentsWithOtherRights(t *testing.T) {
	for env := range 3 {
		k := guardedKernel(env)
		rights := k.Envs[env].Rights
		two := withRoot(k, (env+1)%3, 0)
		checkNoKernel(t, "an environment without rights", two)
		checkNoKernel(t, "an environment with some rights", withRights(two, (env+1)%3, rights[1:]...))
		checkSpaces(t, withRights(two, (env+1)%3, rights...))
		checkSpaces(t, withRights(two, (env+1)%3, "a", "b"))
		three := withRights(withRoot(two, (env+2)%3, 0), (env+1)%3, "")
		checkNoKernel(t, "the last environment without rights", three)
		checkNoKernel(t, "the last environment with other rights", withRights(three, (env+2)%3, "a", "c"))
		checkSpaces(t, withRights(three, (env+2)%3, "a", "b"))
	}
}

// tablesKernel has upper and lower tables at the frames 0 to 3, of which those at 0 and 2 can be reached, data at 4 to 6, other tables at 8 and 9, and free frames; all environments have all rights.
func tablesKernel() impl.Kernel {
	k := withTables(treeKernel(), 0, []int{9, 11, 9, 0}, []int{15, 0, 13, 15}, []int{17, 0, 19, 17}, []int{0, 23, 21, 19})
	k.Infos[8], k.Infos[9] = info(3, "c", 0), info(2, "c", 0)
	return withRoot(k, 2, 0)
}

// badTableWords are, for a kind of table at a frame of tablesKernel, words that it cannot have: no entries, and those of a free frame, of a frame of another kind, and of the table itself.
func badTableWords(frame int, kind int) []int {
	words := badEntries()[1:]
	for other, x := range tablesKernel().Infos {
		if other == frame || x.Kind != needed[kind] {
			words = append(words, readEntries[other], writeEntries[other])
		}
	}
	return words
}

// P65: each word that a table cannot have, in tables that can be reached and in those that cannot, at each place; all frames are counted as the words tell.
func TestKernelsWithBadTables(t *testing.T) {
	for frame, x := range tablesKernel().Infos {
		if x.Kind < 2 {
			continue
		}
		for at := range 4 {
			for _, word := range badTableWords(frame, x.Kind) {
				k := withKernelWord(tablesKernel(), frame, at, word)
				checkNoKernel(t, "the word "+strconv.Itoa(word)+" in frame "+strconv.Itoa(frame), turnedKernel(k, (frame+word)%12))
			}
			for _, word := range append(entriesOf, 0) {
				if other, _, ok := named(word); !ok || other != frame && tablesKernel().Infos[other].Kind == needed[x.Kind] {
					checkSpaces(t, turnedKernel(withKernelWord(tablesKernel(), frame, at, word), (frame+word)%12))
				}
			}
		}
	}
}

// P65: the same words in frames that are no tables make no difference, but they do as soon as the frame is one.
func TestKernelsWithTablesOfBadWords(t *testing.T) {
	for kind := 1; kind <= 3; kind++ {
		for word := range 60 {
			for at := range 4 {
				k := withKernelWord(allAllowed(emptyKernel()), 7, at, word)
				k.Infos[7] = info(kind, "b", 0)
				checkKernel(t, recounted(k), kind == 1 || word == 0)
				k.Infos[(word/4+7)%12] = info(1, "", 0)
				k.Infos[7] = info(kind, "b", 0)
				checkKernel(t, recounted(k), kernelHolds(recounted(k)))
			}
		}
	}
	for word := range 10000 {
		k := withKernelWord(tablesKernel(), word%4, word/4%4, word)
		checkKernel(t, k, kernelHolds(k))
	}
}

// P65: tables that name each other, or themselves, round about.
func TestKernelsWithTablesInCircles(t *testing.T) {
	for _, kinds := range [][]int{{3, 2}, {2, 2}, {3, 3}, {2, 3}} {
		k := allAllowed(emptyKernel())
		k.Infos[3], k.Infos[7] = info(kinds[0], "", 0), info(kinds[1], "", 0)
		k.Memory[3], k.Memory[7] = []int{31, 0, 0, 0}, []int{0, 13, 0, 0}
		checkNoKernel(t, "a circle", recounted(k))
		checkNoKernel(t, "a circle with a root", withRoot(k, 0, 3))
		k.Memory[3], k.Memory[7] = []int{15, 0, 0, 0}, []int{0, 29, 0, 0}
		checkNoKernel(t, "tables that name themselves", recounted(k))
		checkNoKernel(t, "a root that names itself", withRoot(k, 1, 3))
	}
	for _, m := range [][][]int{selfMemory(), pairsMemory(), chainMemory()} {
		for kind := 2; kind <= 3; kind++ {
			k := changedKernel(allAllowed(emptyKernel()), func(k *impl.Kernel) {
				k.Memory, k.Infos = m, slices.Repeat([]impl.Info{info(kind, "", 0)}, 12)
			})
			checkNoKernel(t, "only tables", recounted(k))
		}
	}
}

// P66: uses that are one too many and one too few, and far away, for each frame of kernels in which frames of each kind are used by a word, by several words, by an environment or by several ones.
func TestKernelsWithOtherUses(t *testing.T) {
	one, some := 0, 0
	for _, start := range append(validKernels(), tablesKernel(), treeKernel(), guardedKernel(1), agingKernel(2, 9)) {
		for frame, x := range start.Infos {
			for _, by := range []int{-1, 1, -x.Refs, 2, 4, 50 - x.Refs} {
				if by != 0 {
					checkKernel(t, withKernelInfo(start, frame, info(x.Kind, x.Guard, x.Refs+by)), false)
				}
			}
			if x.Refs == 1 {
				one++
			}
			if x.Refs > 1 {
				some++
			}
		}
	}
	if one < 300 || some < 300 {
		t.Errorf("%d frames are used once, and %d several times", one, some)
	}
	for frame, x := range writtenKernel().Infos {
		checkNoKernel(t, "a use too many", withKernelInfo(writtenKernel(), frame, info(x.Kind, x.Guard, x.Refs+1)))
		checkNoKernel(t, "a use too few", withKernelInfo(writtenKernel(), frame, info(x.Kind, x.Guard, x.Refs-1)))
	}
}

// P66: uses that are one too many for a frame and one too few for another one, so that together they are right; and each word, and each environment, that is not counted.
func TestKernelsWithExchangedUses(t *testing.T) {
	for _, start := range validKernels()[:100] {
		for frame, x := range start.Infos {
			other := (frame + 5) % 12
			if y := start.Infos[other]; x.Kind != 0 && y.Refs > 0 {
				k := withKernelInfo(start, frame, info(x.Kind, x.Guard, x.Refs+1))
				checkKernel(t, withKernelInfo(k, other, info(y.Kind, y.Guard, y.Refs-1)), false)
			}
		}
	}
	start := withCache(writtenKernel())
	for frame, words := range start.Memory {
		for at, word := range words {
			if word != 0 && start.Infos[frame].Kind >= 2 {
				k := changedKernel(start, func(k *impl.Kernel) { k.Memory[frame][at] = 0 })
				checkNoKernel(t, "a word less", k)
				checkKernel(t, recounted(k), true)
			}
		}
	}
	for env := range 3 {
		k := changedKernel(start, func(k *impl.Kernel) { k.Envs[env].Root = -1 })
		checkNoKernel(t, "a root less", k)
		checkKernel(t, recounted(k), true)
	}
}

// P65, P66: an upper table that an environment has and that words of tables name is never right, however it is counted.
func TestKernelsWithRootsThatTablesName(t *testing.T) {
	for _, table := range []int{0, 1, 2, 3} {
		for many := 1; many <= 4; many++ {
			for refs := range 7 {
				k := changedKernel(withCache(tablesKernel()), func(k *impl.Kernel) {
					for at := range many {
						k.Memory[table][at] = entriesOf[12*(at%2)]
					}
				})
				k = recounted(k)
				checkKernel(t, k, false)
				checkNoKernel(t, "a root that is named", withKernelInfo(k, 0, info(3, "a", refs)))
			}
		}
	}
}

// P69, P71: environments that do not exist, for kernels that are valid, and all others.
func TestReachOfNoEnvironment(t *testing.T) {
	k := withRoot(tablesKernel(), 0, 0)
	bad := changedKernel(k, func(k *impl.Kernel) { k.Infos[11].Refs = 1 })
	for _, env := range noneOf(3) {
		checkReach(t, k, env)
		checkReach(t, bad, env)
		checkReach(t, impl.Kernel{}, env)
		for _, address := range []int{0, 5, 63, -1, 64} {
			checkNotSeen(t, k, env, address)
			checkNotSeen(t, bad, env, address)
		}
	}
	checkReach(t, k, 0, 0, 2, 4)
	checkReach(t, k, 1)
	checkReach(t, k, 2, 0, 2, 4)
}

// P71: addresses that do not exist, of each environment.
func TestWordsOfNoAddress(t *testing.T) {
	full := withTables(treeKernel(), 0, []int{9, 9, 9, 9}, []int{0, 0, 0, 0}, []int{17, 17, 17, 17})
	full = withRoot(withRoot(full, 0, 0), 2, 0)
	checkSees(t, full, 0, 0, 400)
	checkSees(t, full, 2, 63, 403)
	for _, address := range noneOf(64) {
		for env := -1; env <= 3; env++ {
			checkNotSeen(t, full, env, address)
		}
	}
}

// P69, P71: a kernel, an environment and an address, each of them invalid alone, and together with the others.
func TestInvalidArgumentsOfKernelsTogether(t *testing.T) {
	good := writtenKernel()
	kernels := []impl.Kernel{good, withKernelInfo(good, 10, info(0, "", 1)), changedKernel(good, func(k *impl.Kernel) { k.Envs[2].Root = 12 }), {}, withCache(good, impl.Cached{Env: 0, Page: 1, Frame: 5, Write: true})}
	for i, k := range kernels {
		for j, env := range []int{0, 3, -1} {
			if i+j > 0 {
				checkReach(t, k, env)
			}
			for n, address := range []int{3, 64, -1} {
				if i+j+n > 0 {
					checkNotSeen(t, k, env, address)
				}
			}
		}
	}
	checkReach(t, good, 0, 0, 1, 2, 5, 6, 7)
	checkSees(t, good, 0, 3, 9999)
}

// P64, P68: nil and empty slices in each part. Only the cache and the rights may be so; the zero value of a kernel has no frames.
func TestKernelsOfNothing(t *testing.T) {
	checkNoKernel(t, "the zero value", impl.Kernel{})
	checkNoKernel(t, "empty parts", impl.Kernel{Memory: [][]int{}, Infos: []impl.Info{}, Envs: []impl.Env{}, Cache: []impl.Cached{}})
	for _, start := range []impl.Kernel{emptyKernel(), withCache(writtenKernel()), writtenKernel()} {
		change := func(name string, part func(k *impl.Kernel)) { checkNoKernel(t, name, changedKernel(start, part)) }
		change("no memory", func(k *impl.Kernel) { k.Memory = nil })
		change("no frames", func(k *impl.Kernel) { k.Memory = [][]int{} })
		change("frames of nil", func(k *impl.Kernel) { k.Memory = make([][]int, 12) })
		change("no list", func(k *impl.Kernel) { k.Infos = nil })
		change("an empty list", func(k *impl.Kernel) { k.Infos = []impl.Info{} })
		change("no environments", func(k *impl.Kernel) { k.Envs = nil })
		change("no environment", func(k *impl.Kernel) { k.Envs = []impl.Env{} })
		for frame := range 12 {
			change("no words", func(k *impl.Kernel) { k.Memory[frame] = nil })
			change("empty words", func(k *impl.Kernel) { k.Memory[frame] = []int{} })
		}
		checkSpaces(t, changedKernel(start, func(k *impl.Kernel) { k.Cache = nil }))
		checkSpaces(t, changedKernel(start, func(k *impl.Kernel) { k.Cache = []impl.Cached{} }))
	}
	for env := range 3 {
		checkSpaces(t, changedKernel(emptyKernel(), func(k *impl.Kernel) { k.Envs[env].Rights = []string{} }))
		checkSpaces(t, changedKernel(emptyKernel(), func(k *impl.Kernel) { k.Envs[env].Rights = nil }))
		zero := withRoot(withKernelInfo(emptyKernel(), 0, info(3, "", 0)), env, 0)
		checkNoKernel(t, "an upper table without rights", zero)
		checkSpaces(t, withRights(zero, env, ""))
	}
	checkNoKernel(t, "environments that are zero", changedKernel(emptyKernel(), func(k *impl.Kernel) { k.Envs = make([]impl.Env, 3) }))
}
