package tests

import (
	"slices"
	"testing"

	"loop.example/exopager/impl"
)

// writtenKernel has one upper table for environment 0, and one for both others; a lower table that both name, one that is named twice, and one that nobody names; frames
// that are named once, several times, and by two lower tables; and one free frame. Nobody has a right for frame 9. Words of frames that are no tables look like entries.
func writtenKernel() impl.Kernel {
	return impl.Kernel{
		Memory: [][]int{
			{7, 0, 9, 5},
			{23, 27, 0, 21},
			{25, 0, 0, 31},
			{0, 19, 9, 0},
			{0, 33, 35, 31},
			{51, 52, 54, 9999},
			{61, 62, 64, 66},
			{1, 7, 47, 0},
			{81, 82, 84, 86},
			{23, 3, 45, 17},
			{9999, 1, 2, 39},
			{33, 0, 35, 37},
		},
		Infos: []impl.Info{
			info(3, "a", 1), info(2, "a", 2), info(2, "ab", 2), info(3, "b", 2),
			info(2, "bc", 1), info(1, "a", 2), info(1, "abc", 2), info(1, "aca", 2),
			info(1, "bb", 4), info(1, "cc", 1), {}, info(2, "cccc", 0),
		},
		Envs:  []impl.Env{{Rights: []string{"a"}, Root: 0}, {Rights: []string{"ab", "aca", "b"}, Root: 3}, {Rights: []string{"", "c"}, Root: 3}},
		Cache: []impl.Cached{{Env: 0, Page: 0, Frame: 5, Write: true}, {Env: 1, Page: 7, Frame: 7, Write: true}, {Env: 2, Page: 8, Frame: 6}, {Env: 0, Page: 15, Frame: 5}},
	}
}

// writtenReach and writtenSpace are what the environments of writtenKernel can reach, and their pages, written out.
func writtenReach(env int) []int {
	if env == 0 {
		return []int{0, 1, 2, 5, 6, 7}
	}
	return []int{2, 3, 4, 6, 7, 8}
}

func writtenSpace(env int) []page {
	top, low := page{0, false, 1}, page{0, false, 2}
	if env == 0 {
		return []page{
			{5, true, 0}, {6, true, 0}, low, {5, false, 0},
			top, top, top, top,
			{6, false, 0}, low, low, {7, false, 0},
			{5, false, 0}, {6, false, 0}, low, {5, false, 0},
		}
	}
	return []page{
		top, top, top, top,
		low, {8, false, 0}, {8, true, 0}, {7, true, 0},
		{6, false, 0}, low, low, {7, false, 0},
		top, top, top, top,
	}
}

// emptyKernel has only free frames, and no rights, upper tables or translations.
func emptyKernel() impl.Kernel {
	return impl.Kernel{Memory: evenMemory(0), Infos: freeInfos(), Envs: []impl.Env{{Root: -1}, {Root: -1}, {Root: -1}}}
}

// kernelCopy shares nothing with the kernel.
func kernelCopy(k impl.Kernel) impl.Kernel {
	envs := []impl.Env{}
	for _, e := range k.Envs {
		envs = append(envs, impl.Env{Rights: slices.Clone(e.Rights), Root: e.Root})
	}
	return impl.Kernel{Memory: copyOf(k.Memory), Infos: slices.Clone(k.Infos), Envs: envs, Cache: slices.Clone(k.Cache)}
}

// changedKernel is a copy of the kernel with some change.
func changedKernel(k impl.Kernel, change func(k *impl.Kernel)) impl.Kernel {
	other := kernelCopy(k)
	change(&other)
	return other
}

// recounted is the kernel whose frames, but for free ones, are used as often as it has to be. What is wrong otherwise remains.
func recounted(k impl.Kernel) impl.Kernel {
	return changedKernel(k, func(k *impl.Kernel) {
		for frame, many := range usesIn(*k) {
			if k.Infos[frame].Kind != 0 {
				k.Infos[frame].Refs = many
			}
		}
	})
}

// withCache is the kernel with other translations.
func withCache(k impl.Kernel, c ...impl.Cached) impl.Kernel {
	return changedKernel(k, func(k *impl.Kernel) { k.Cache = c })
}

// withKernelWord is the kernel that has another word at one place, and no translations; all uses are counted again.
func withKernelWord(k impl.Kernel, frame int, at int, word int) impl.Kernel {
	return recounted(changedKernel(withCache(k), func(k *impl.Kernel) { k.Memory[frame][at] = word }))
}

// withKernelInfo is the kernel in which something else is known of one frame.
func withKernelInfo(k impl.Kernel, frame int, x impl.Info) impl.Kernel {
	return changedKernel(k, func(k *impl.Kernel) { k.Infos[frame] = x })
}

// withRoot is the kernel in which an environment has another upper table, and no translations; all uses are counted again.
func withRoot(k impl.Kernel, env int, root int) impl.Kernel {
	return recounted(changedKernel(withCache(k), func(k *impl.Kernel) { k.Envs[env].Root = root }))
}

// withRights is the kernel in which an environment has other rights.
func withRights(k impl.Kernel, env int, rights ...string) impl.Kernel {
	return changedKernel(k, func(k *impl.Kernel) { k.Envs[env].Rights = rights })
}

// allAllowed is the kernel in which each environment has all rights, so that none is missing.
func allAllowed(k impl.Kernel) impl.Kernel {
	for env := range k.Envs {
		k = withRights(k, env, "")
	}
	return k
}

// turnedKernel is the kernel whose frames lie some frames farther on, in a circle.
func turnedKernel(k impl.Kernel, by int) impl.Kernel {
	other := kernelCopy(k)
	other.Memory, other.Infos = turned(k.Memory, by), turnedList(k.Infos, by)
	for env, e := range other.Envs {
		if e.Root != -1 {
			other.Envs[env].Root = (e.Root + by) % 12
		}
	}
	for i, x := range other.Cache {
		other.Cache[i].Frame = (x.Frame + by) % 12
	}
	return other
}

// turnedEnvs is the kernel whose environments come some places later, in a circle.
func turnedEnvs(k impl.Kernel, by int) impl.Kernel {
	other := kernelCopy(k)
	for env, e := range k.Envs {
		other.Envs[(env+by)%3] = impl.Env{Rights: slices.Clone(e.Rights), Root: e.Root}
	}
	for i, x := range other.Cache {
		other.Cache[i].Env = (x.Env + by) % 3
	}
	return other
}

func sameKernel(a impl.Kernel, b impl.Kernel) bool {
	sameEnv := func(x impl.Env, y impl.Env) bool { return x.Root == y.Root && slices.Equal(x.Rights, y.Rights) }
	return sameMemory(a.Memory, b.Memory) && slices.Equal(a.Infos, b.Infos) && slices.EqualFunc(a.Envs, b.Envs, sameEnv) && slices.Equal(a.Cache, b.Cache)
}

// reachedFrom are the frames that can be reached from an upper table, if there is one, as the lists of all entries tell.
func reachedFrom(m [][]int, root int) []int {
	if root == -1 {
		return nil
	}
	list := []int{root}
	for _, word := range m[root] {
		table, _, ok := named(word)
		if !ok {
			continue
		}
		list = append(list, table)
		for _, other := range m[table] {
			if frame, _, ok := named(other); ok {
				list = append(list, frame)
			}
		}
	}
	slices.Sort(list)
	return slices.Compact(list)
}

// pageIn tells of a page of an environment what the words of the memory tell. Without an upper table, nothing is found.
func pageIn(k impl.Kernel, env int, number int) page {
	if root := k.Envs[env].Root; root != -1 {
		return pageOf(k.Memory, root, number/4, number%4)
	}
	return page{0, false, 3}
}

// usesIn is how often each frame is used by words of tables and by environments.
func usesIn(k impl.Kernel) []int {
	uses := countsOf(k.Memory, k.Infos)
	for _, e := range k.Envs {
		if e.Root >= 0 && e.Root <= 11 {
			uses[e.Root]++
		}
	}
	return uses
}

// isCurrent tells whether a translation is what the tables tell.
func isCurrent(k impl.Kernel, x impl.Cached) bool {
	return pageIn(k, x.Env, x.Page) == page{x.Frame, x.Write, 0}
}

// currentOf are all translations of an environment that the tables tell.
func currentOf(k impl.Kernel, env int) []impl.Cached {
	list := []impl.Cached{}
	for number := range 16 {
		if p := pageIn(k, env, number); p.code == 0 {
			list = append(list, impl.Cached{Env: env, Page: number, Frame: p.frame, Write: p.write})
		}
	}
	return list
}

func allCurrent(k impl.Kernel) []impl.Cached {
	return slices.Concat(currentOf(k, 0), currentOf(k, 1), currentOf(k, 2))
}

// partsHold tells whether the parts of a kernel are valid, each alone.
func partsHold(k impl.Kernel) bool {
	for _, e := range k.Envs {
		if !impl.RightsValid(e.Rights) || e.Root < -1 || e.Root > 11 {
			return false
		}
	}
	return impl.MemoryValid(k.Memory) && impl.InfosValid(k.Infos) && impl.CacheValid(k.Cache) && len(k.Envs) == 3
}

// kernelHolds tells whether a kernel is valid.
func kernelHolds(k impl.Kernel) bool {
	if !partsHold(k) {
		return false
	}
	for _, e := range k.Envs {
		if e.Root != -1 && k.Infos[e.Root].Kind != 3 {
			return false
		}
		for _, frame := range reachedFrom(k.Memory, e.Root) {
			if !mayBy(e.Rights, k.Infos[frame].Guard) {
				return false
			}
		}
	}
	uses := usesIn(k)
	for frame, x := range k.Infos {
		if x.Refs != uses[frame] || x.Kind >= 2 && !goodWords(k.Memory, k.Infos, frame, x.Kind, []string{""}) {
			return false
		}
	}
	return !slices.ContainsFunc(k.Cache, func(x impl.Cached) bool { return !isCurrent(k, x) })
}

// series gives numbers by a short rule, each below the one that is asked for.
func series(number int) func(below int) int {
	number += 17
	return func(below int) int {
		number = (number*1103 + 12345) % 1000003
		return number / 7 % below
	}
}

// guardsOfMany are the guards of generatedKernel: some include others, and some do not.
func guardsOfMany() []string {
	return []string{"", "a", "ab", "abc", "b", "bac", "c", "cc", "a", "b"}
}

// generatedKernel is a valid kernel. All of it depends on the number: kinds, guards and words of frames, upper tables, rights, and translations.
func generatedKernel(number int) impl.Kernel {
	next := series(number)
	k := emptyKernel()
	for frame := range k.Infos {
		kind := []int{0, 1, 1, 1, 1, 2, 2, 2, 3, 3}[next(10)]
		k.Infos[frame] = frameOf(kind, guardsOfMany()[next(10)], 0)
	}
	for frame, x := range k.Infos {
		for at := range 4 {
			k.Memory[frame][at] = generatedWord(k.Infos, x.Kind, next)
		}
	}
	tops := framesWhere(func(frame int) bool { return k.Infos[frame].Kind == 3 })
	for env := range k.Envs {
		if len(tops) > 0 && next(5) > 0 {
			k.Envs[env].Root = tops[next(len(tops))]
		}
		k.Envs[env].Rights = rightsFor(k, env, next)
	}
	for _, x := range allCurrent(k) {
		if len(k.Cache) < number%5 && next(3) > 0 {
			k.Cache = slices.Insert(k.Cache, next(len(k.Cache)+1), x)
		}
	}
	return recounted(k)
}

// generatedWord is any word or any entry if the frame is no table, and otherwise 0 or an entry of a frame that it needs.
func generatedWord(list []impl.Info, kind int, next func(int) int) int {
	if kind < 2 {
		return []int{next(10000), entriesOf[next(24)]}[next(2)]
	}
	needs := framesWhere(func(frame int) bool { return list[frame].Kind == needed[kind] })
	if len(needs) == 0 || next(3) == 0 {
		return 0
	}
	return entriesOf[12*next(2)+needs[next(len(needs))]]
}

// rightsFor are rights for all that an environment can reach: as few as possible, or the guards themselves, of which there may be some more.
func rightsFor(k impl.Kernel, env int, next func(int) int) []string {
	rights := []string{}
	for _, frame := range reachedFrom(k.Memory, k.Envs[env].Root) {
		rights = addedTo(rights, k.Infos[frame].Guard)
	}
	if len(rights) > 6 || next(6) == 0 {
		return []string{""}
	}
	if len(rights) < 6 && next(3) == 0 {
		return addedTo(rights, eachRight[next(121)])
	}
	return rights
}

// validKernels are those that are written out, with frames and environments in each place, empty ones, and generated ones.
func validKernels() []impl.Kernel {
	all := []impl.Kernel{emptyKernel()}
	for by := range 12 {
		all = append(all, turnedEnvs(turnedKernel(writtenKernel(), by), by%3))
	}
	for number := range 400 {
		all = append(all, generatedKernel(number))
	}
	return all
}

func checkKernel(t *testing.T, k impl.Kernel, want bool) {
	t.Helper()
	if got := impl.KernelValid(k); got != want {
		t.Errorf("KernelValid(%s) is %t", short(k), got)
	}
}

func checkReach(t *testing.T, k impl.Kernel, env int, want ...int) {
	t.Helper()
	if got := impl.KernelReach(k, env); !slices.Equal(got, want) {
		t.Errorf("KernelReach(%s, %d) is %v, not %v", short(k), env, got, want)
	}
}

func checkSees(t *testing.T, k impl.Kernel, env int, address int, word int) {
	t.Helper()
	if got, ok := impl.KernelSees(k, env, address); got != word || !ok {
		t.Errorf("KernelSees(%s, %d, %d) is %d, %t, not %d", short(k), env, address, got, ok, word)
	}
}

func checkNotSeen(t *testing.T, k impl.Kernel, env int, address int) {
	t.Helper()
	if got, ok := impl.KernelSees(k, env, address); got != 0 || ok {
		t.Errorf("KernelSees(%s, %d, %d) is %d, %t", short(k), env, address, got, ok)
	}
}

// checkSpaces expects a valid kernel, and looks at all that each environment can reach, and at one word of each page. TestWordsOfValidKernels looks at all words.
func checkSpaces(t *testing.T, k impl.Kernel) {
	t.Helper()
	checkKernel(t, k, true)
	for env, e := range k.Envs {
		checkReach(t, k, env, reachedFrom(k.Memory, e.Root)...)
		for number := range 16 {
			at := (number/4 + number + env) % 4
			if p := pageIn(k, env, number); p.code == 0 {
				checkSees(t, k, env, 4*number+at, k.Memory[p.frame][at])
			} else {
				checkNotSeen(t, k, env, 4*number+at)
			}
		}
	}
}

// checkNoKernel expects that nothing can be done with the kernel, whatever is asked for.
func checkNoKernel(t *testing.T, name string, k impl.Kernel) {
	t.Helper()
	checkKernel(t, k, false)
	for env := -1; env <= 3; env++ {
		checkReach(t, k, env)
		for _, address := range []int{-1, 0, 7, 25, 33, 63, 64} {
			checkNotSeen(t, k, env, address)
		}
	}
	if t.Failed() {
		t.Fatalf("with %s", name)
	}
}
