package tests

import (
	"fmt"
	"slices"
	"strconv"
	"testing"

	"loop.example/exopager/impl"
)

// part is a list of a kernel: how to write to all that it has, within its capacity, and how to append to it.
type part struct {
	name  string
	spoil func(k impl.Kernel)
	more  func(k impl.Kernel)
}

// partOf finds a list in a kernel. What is written is of no use in a kernel.
func partOf[T any](name string, junk T, list func(k impl.Kernel) []T) part {
	spoil := func(k impl.Kernel) {
		whole := list(k)[:cap(list(k))]
		for i := range whole {
			whole[i] = junk
		}
	}
	return part{name, spoil, func(k impl.Kernel) { _ = append(list(k), junk, junk) }}
}

// partsOf are all lists of a kernel, those that lie in others first, so that they can be written to one after the other.
func partsOf() []part {
	all := []part{}
	for frame := range 12 {
		all = append(all, partOf("frame "+strconv.Itoa(frame), -77, func(k impl.Kernel) []int { return k.Memory[frame] }))
	}
	for env := range 3 {
		all = append(all, partOf("the rights of "+strconv.Itoa(env), "spoiled", func(k impl.Kernel) []string { return k.Envs[env].Rights }))
	}
	return append(all,
		partOf("the memory", []int{-77}, func(k impl.Kernel) [][]int { return k.Memory }),
		partOf("the list", spoiledInfo, func(k impl.Kernel) []impl.Info { return k.Infos }),
		partOf("the environments", impl.Env{Rights: []string{"spoiled"}, Root: -77}, func(k impl.Kernel) []impl.Env { return k.Envs }),
		partOf("the cache", spoiled, func(k impl.Kernel) []impl.Cached { return k.Cache }))
}

func spoilKernel(k impl.Kernel) {
	for _, x := range partsOf() {
		x.more(k)
		x.spoil(k)
	}
}

// newOf is a new kernel with some rights, which must be there.
func newOf(t *testing.T, rights [][]string) impl.Kernel {
	t.Helper()
	k, ok := impl.KernelNew(rights)
	if !ok {
		t.Fatalf("there is no kernel with %q", rights)
	}
	return k
}

// someNewRights are rights of three environments, with room behind each list.
func someNewRights() [][][]string {
	all := [][][]string{}
	for _, list := range [][][]string{{nil, nil, nil}, {{""}, {""}, {""}}, {{"a"}, {"b"}, {"c"}}, {{"a", "ab", "b", "bc", "c", "ca"}, nil, {"", "a"}}, {nil, {"cccc"}, {"a", "b", "c"}}} {
		store := slices.Clone(list)
		for env := range store {
			store[env] = roomyRights(store[env])
		}
		all = append(all, append(store, []string{"behind"}, []string{"d"})[:3])
	}
	return all
}

// allTexts are all rights, with those that lie behind them, which do not count.
func allTexts(rights [][]string) []string {
	texts := []string{}
	for _, list := range rights[:cap(rights)] {
		texts = append(texts, list[:cap(list)]...)
	}
	return texts
}

// P63: no call changes the rights that it gets, nor what lies behind them, and nothing that is done to a kernel does.
func TestNewKernelsLeaveTheRights(t *testing.T) {
	for _, rights := range someNewRights() {
		want := emptyKernel()
		for env, list := range rights {
			want.Envs[env].Rights = slices.Clone(list)
		}
		before := allTexts(rights)
		k := newOf(t, rights)
		if !sameKernel(k, want) || !slices.Equal(allTexts(rights), before) {
			t.Errorf("the kernel is %s, and the rights are %q", short(k), allTexts(rights))
		}
		for _, x := range partsOf() {
			for _, write := range []func(impl.Kernel){x.more, x.spoil} {
				write(newOf(t, rights))
				if !slices.Equal(allTexts(rights), before) {
					t.Fatalf("a change of %s changes the rights from %q to %q", x.name, before, allTexts(rights))
				}
			}
		}
	}
}

// P63: a change of the rights does not change the kernel that was made with them.
func TestNewKernelsAreApartFromTheRights(t *testing.T) {
	for i := range someNewRights() {
		for env := range 3 {
			rights := someNewRights()[i]
			k := newOf(t, rights)
			want := kernelCopy(k)
			_ = append(rights[env], "spoiled", "spoiled")
			spoilRights(rights[env][:cap(rights[env])])
			_ = append(rights, []string{"spoiled"})
			rights[env] = []string{"spoiled"}
			if !sameKernel(k, want) {
				t.Errorf("a change of the rights of %d changes the kernel to %s", env, short(k))
			}
		}
	}
}

// P63: no part of a new kernel shares memory with another one, nor with a part of another kernel with the same rights, not even by an append.
func TestPartsOfNewKernelsShareNothing(t *testing.T) {
	same := []string{"a", "b"}
	for _, rights := range append(someNewRights(), [][]string{same, same, same}) {
		for _, x := range partsOf() {
			for _, write := range []func(impl.Kernel){x.more, x.spoil} {
				k, other := newOf(t, rights), newOf(t, rights)
				want := kernelCopy(k)
				write(k)
				if !sameKernel(other, want) {
					t.Fatalf("a change of %s changes another kernel to %s", x.name, short(other))
				}
				checkOtherParts(t, x.name, k, want)
			}
		}
	}
}

// checkOtherParts expects that all parts but one are as they were.
func checkOtherParts(t *testing.T, name string, k impl.Kernel, want impl.Kernel) {
	t.Helper()
	if name != "the memory" {
		for frame, words := range k.Memory {
			if name != "frame "+strconv.Itoa(frame) && !slices.Equal(words, want.Memory[frame]) {
				t.Errorf("a change of %s changes frame %d to %v", name, frame, words)
			}
		}
	}
	if name != "the environments" {
		for env, e := range k.Envs {
			if e.Root != want.Envs[env].Root || name != "the rights of "+strconv.Itoa(env) && !slices.Equal(e.Rights, want.Envs[env].Rights) {
				t.Errorf("a change of %s changes environment %d to %v", name, env, e)
			}
		}
	}
	if name != "the list" && !slices.Equal(k.Infos, want.Infos) {
		t.Errorf("a change of %s changes the list to %v", name, k.Infos)
	}
	if name != "the cache" && !slices.Equal(k.Cache, want.Cache) {
		t.Errorf("a change of %s changes the cache to %v", name, k.Cache)
	}
}

// P63: a new kernel can be changed to any other one, and what is appended to one part does not come to another one.
func TestNewKernelsCanBeFilled(t *testing.T) {
	start := writtenKernel()
	k := newOf(t, [][]string{start.Envs[0].Rights, start.Envs[1].Rights, start.Envs[2].Rights})
	for frame, words := range start.Memory {
		copy(k.Memory[frame], words)
		k.Infos[frame] = start.Infos[frame]
	}
	for env, e := range start.Envs {
		k.Envs[env].Root = e.Root
	}
	k.Cache = append(k.Cache, start.Cache...)
	for env := range 3 {
		k.Envs[env].Rights = append(k.Envs[env].Rights, "cccc")
	}
	for env, e := range start.Envs {
		start.Envs[env].Rights = append(slices.Clone(e.Rights), "cccc")
	}
	if !sameKernel(k, start) {
		t.Errorf("the kernel is %s, not %s", short(k), short(start))
	}
	checkSpaces(t, k)
}

// roomyKernel is a kernel with room behind each of its lists, which holds what does not count; and all that it lies in.
func roomyKernel(start impl.Kernel) (impl.Kernel, func() string) {
	m, words := start.Memory, []int{}
	if len(m) <= 12 && impl.MemoryValid(m) {
		m, words = roomyMemory(m)
	}
	infos := append(slices.Clone(start.Infos), usedInfos(3)...)[:len(start.Infos)]
	envs := []impl.Env{}
	for _, e := range start.Envs {
		envs = append(envs, impl.Env{Rights: roomyRights(e.Rights), Root: e.Root})
	}
	envs = append(envs, impl.Env{Root: 7}, impl.Env{Rights: []string{"d"}, Root: -1})[:len(envs)]
	k := impl.Kernel{Memory: m, Infos: infos, Envs: envs, Cache: roomy(start.Cache)}
	return k, func() string {
		rights := [][]string{}
		for _, e := range envs[:len(start.Envs)] {
			rights = append(rights, e.Rights[:cap(e.Rights)])
		}
		return fmt.Sprintf("%v %v %v %q %v %v", m[:cap(m)], words, infos[:cap(infos)], rights, envs[:cap(envs)], k.Cache[:cap(k.Cache)])
	}
}

// kernelsToLeave are valid and invalid ones.
func kernelsToLeave() []impl.Kernel {
	all := append(validKernels()[:80], impl.Kernel{})
	for i, x := range slices.Concat(badMemories(), badLists(), badCaches()) {
		if i%29 == 0 {
			all = append(all, x.k)
		}
	}
	for _, x := range agedTables(1, 6) {
		all = append(all, withCache(x.after, othersThan(1)...), withCache(x.after, impl.Cached{Env: 1, Page: 6, Frame: 6, Write: true}))
	}
	return all
}

// P64 to P71: no function changes a kernel, or what lies behind its lists, and none reads that.
func TestKernelsAreLeft(t *testing.T) {
	for _, start := range kernelsToLeave() {
		k, look := roomyKernel(start)
		before := look()
		if got, want := impl.KernelValid(k), impl.KernelValid(start); got != want {
			t.Errorf("KernelValid(%s) is %t, with room behind it, and otherwise %t", short(start), got, want)
		}
		for env := -1; env <= 3; env++ {
			checkReach(t, k, env, impl.KernelReach(start, env)...)
			for address := -1; address <= 64; address += 5 {
				if word, ok := impl.KernelSees(start, env, address); ok {
					checkSees(t, k, env, address, word)
				} else {
					checkNotSeen(t, k, env, address)
				}
			}
		}
		if look() != before {
			t.Fatalf("%s is changed to %s", before, look())
		}
	}
}

// P69: what is reached shares nothing with the kernel, nor with the result of another call, not even by an append.
func TestReachSharesNothing(t *testing.T) {
	for _, start := range append(validKernels()[:60], tablesKernel()) {
		for env := range 3 {
			k, look := roomyKernel(start)
			before, want := look(), reachedFrom(start.Memory, start.Envs[env].Root)
			one, two := impl.KernelReach(k, env), impl.KernelReach(k, env)
			longer := append(two, 7)
			_ = append(one, -1, -2)
			spoilList(one)
			if !slices.Equal(two, want) || !slices.Equal(longer, append(want, 7)) {
				t.Errorf("a change of what is reached changes another list from %v to %v", want, longer)
			}
			if look() != before {
				t.Errorf("a change of what is reached changes %s to %s", before, look())
			}
			three := impl.KernelReach(k, env)
			spoilKernel(k)
			if !slices.Equal(three, want) {
				t.Errorf("a change of the kernel changes what is reached from %v to %v", want, three)
			}
		}
	}
}

// P64 to P71: all frames may be one and the same slice, and all rights, too.
func TestKernelsInOneSlice(t *testing.T) {
	words, rights := []int{0, 0, 0, 0}, []string{"a"}
	k := impl.Kernel{Memory: slices.Repeat([][]int{words}, 12), Infos: freeInfos(), Envs: slices.Repeat([]impl.Env{{Rights: rights, Root: 4}}, 3)}
	k.Infos[4], k.Infos[5] = info(3, "ab", 3), info(2, "", 0)
	checkSpaces(t, k)
	checkReach(t, k, 1, 4)
	words[2] = 23
	checkKernel(t, k, false)
	if !slices.Equal(words, []int{0, 0, 23, 0}) || !slices.Equal(rights, []string{"a"}) {
		t.Errorf("the slices are changed to %v and %q", words, rights)
	}
}

// P63 to P71: a call depends on nothing that earlier calls did.
func TestNoKernelIsKept(t *testing.T) {
	k := writtenKernel()
	checkSees(t, k, 0, 0, 51)
	k.Memory[5][0] = 7
	checkSees(t, k, 0, 0, 7)
	k.Memory[0][0] = 5
	checkNoKernel(t, "a translation that has become old", k)
	k.Cache[0].Write = false
	checkSees(t, k, 0, 0, 7)
	k.Envs[0].Root = 3
	checkNoKernel(t, "another upper table", k)
	k.Infos[0].Refs, k.Infos[3].Refs = 0, 3
	k.Cache = k.Cache[1:3]
	checkNoKernel(t, "no rights for it", k)
	k.Envs[0].Rights = []string{"a", "b"}
	checkReach(t, k, 0, 2, 3, 4, 6, 7, 8)
	checkNotSeen(t, k, 0, 0)
	checkSees(t, k, 0, 20, 81)
	k.Envs[1].Root = -1
	k.Infos[3].Refs = 2
	checkNoKernel(t, "no upper table any more", k)
	k.Cache = k.Cache[1:]
	checkReach(t, k, 1)
	checkReach(t, k, 2, 2, 3, 4, 6, 7, 8)
	checkSpaces(t, writtenKernel())
	checkNew(t, []string{"a"}, nil, nil)
	checkNew(t, nil, []string{"b"}, nil)
}
