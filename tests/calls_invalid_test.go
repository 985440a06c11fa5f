package tests

import (
	"math"
	"slices"
	"testing"

	"loop.example/exopager/impl"
)

// doneCalls are calls of each kind, all of which are done in writtenKernel, and in most kernels with one fault if this is not seen.
func doneCalls() []impl.Call {
	return []impl.Call{
		takeCall(2, "b"), giveCall(2, 9), pokeCall(2, 9, 0, 1), pinCall(2, 9, 2), unpinCall(2, 11), setCall(2, 1, 0, 0), rootCall(2, -1),
		grantCall(2, 2, "ab"), revokeCall(2, 1, "cc"), loadCall(0, 0), storeCall(0, 1, 5),
	}
}

// P74: kinds that no call has, by each environment, next to the others and far away, whatever the arguments are; and those that calls have, with the arguments of others.
func TestCallsOfOtherKinds(t *testing.T) {
	near := []int{0, -1, 12, 13, 255, 256, 257, 267, -11, 1 << 32, 1<<32 + 1, 1<<32 + 10, -1<<32 + 1, math.MinInt, math.MinInt + 1, math.MaxInt}
	for _, k := range []impl.Kernel{writtenKernel(), allAllowed(orderKernel()), emptyKernel()} {
		for env := range 3 {
			for _, kind := range near {
				checkRefused(t, k, impl.Call{Kind: kind, Env: env}, 3)
				checkRefused(t, k, impl.Call{Kind: kind, Env: env, A: 3, B: 2, C: 9, Name: "a"}, 3)
			}
			for kind := -1; kind <= 12; kind++ {
				for _, c := range doneCalls() {
					c.Kind, c.Env = kind, env
					callNow(t, k, c)
				}
			}
		}
	}
	for i, kind := range noneOf(12) {
		checkRefused(t, writtenKernel(), impl.Call{Kind: kind, Env: i % 3, A: i % 12, B: i % 4, C: 9, Name: "a"}, 3)
	}
}

// P74: environments that do not exist, next to the others and far away, with calls of each kind and of none; and those that do.
func TestCallsOfNoEnvironment(t *testing.T) {
	k := writtenKernel()
	for _, c := range doneCalls() {
		checkCode(t, withTables(k, 9, []int{0, 0, 0, 0}, []int{0, 0, 0, 0}, []int{0, 0, 0, 0}), c, 0)
		for _, env := range []int{-1, 3, -2, 4, 12, 256, 1 << 32, 1<<32 + 1, -1 << 32} {
			c.Env = env
			checkNoCall(t, k, c)
		}
	}
	for i, env := range noneOf(3) {
		c := doneCalls()[i%11]
		c.Env = env
		checkNoCall(t, allAllowed(orderKernel()), c)
		checkNoCall(t, k, impl.Call{Kind: i % 14, Env: env})
	}
	for _, env := range []int{0, 1, 2} {
		checkCode(t, k, impl.Call{Kind: 7, Env: env, A: -1}, 0)
	}
}

// brokenKernels have one fault each: of a part alone, or of what parts tell of each other.
func brokenKernels() []impl.Kernel {
	k := writtenKernel()
	all := []impl.Kernel{
		{},
		withRights(k, 0),
		withRights(k, 1, "b"),
		withKernelInfo(k, 9, info(1, "cc", 0)),
		withKernelInfo(k, 10, info(0, "", 1)),
		withKernelInfo(k, 6, info(1, "b", 2)),
		changedKernel(k, func(k *impl.Kernel) { k.Memory[11][1] = 2 }),
		changedKernel(k, func(k *impl.Kernel) { k.Memory[11][1] = 47 }),
		changedKernel(k, func(k *impl.Kernel) { k.Envs[2].Root = -1 }),
		changedKernel(k, func(k *impl.Kernel) { k.Envs[2].Root = 12 }),
		changedKernel(k, func(k *impl.Kernel) { k.Envs = k.Envs[:2] }),
		changedKernel(k, func(k *impl.Kernel) { k.Cache[3].Write = true }),
		changedKernel(k, func(k *impl.Kernel) { k.Cache[0].Page = 1 }),
		recounted(withRoot(allAllowed(k), 2, 2)),
	}
	for i, x := range slices.Concat(badMemories(), badLists(), badCaches()) {
		if i%37 == 0 {
			all = append(all, x.k)
		}
	}
	for _, x := range agedRoots(2, 6) {
		if old := withCache(x.after, impl.Cached{Env: 2, Page: 6, Frame: 6, Write: true}); !x.same && !isCurrent(x.after, old.Cache[0]) {
			all = append(all, old)
		}
	}
	return all
}

// P74: an invalid kernel with a call that would be done; one of another kind; and one of no environment, too.
func TestCallsInInvalidKernels(t *testing.T) {
	for _, k := range brokenKernels() {
		if kernelHolds(k) {
			t.Fatalf("%s is valid", short(k))
		}
		for _, c := range doneCalls() {
			checkNoCall(t, k, c)
			c.Env = (c.Env + 1) % 3
			checkNoCall(t, k, c)
			c.Env = 3
			checkNoCall(t, k, c)
		}
		checkNoCall(t, k, impl.Call{Kind: 12})
		checkNoCall(t, k, impl.Call{Kind: 0, Env: -1})
		checkNoCall(t, k, takeCall(0, "d"))
		checkNoCall(t, k, loadCall(1, 64))
	}
}

// P93: an invalid kernel without calls, with one, and with many, of which some are of no environment: there is nothing, and there are no codes.
func TestPlaysInInvalidKernels(t *testing.T) {
	for _, k := range brokenKernels() {
		for _, calls := range [][]impl.Call{nil, {}, {takeCall(2, "b")}, {takeCall(3, "b")}, {{Kind: 12}}, doneCalls(), append(doneCalls(), takeCall(-1, "a"))} {
			checkPlay(t, k, calls, impl.Kernel{})
		}
	}
}

// P72, P74: kernels with one change or two, of any kind: a call is invalid exactly if the kernel is, and otherwise it does what the table of calls tells.
func TestCallsInKernelsWithAnyChanges(t *testing.T) {
	valid, invalid := 0, 0
	for number := range 6000 {
		next := series(number + 7000)
		k := changedKernel(generatedKernel(number%400), func(k *impl.Kernel) { spoilPart(k, next) })
		if next(2) == 0 {
			k = recounted(k)
		}
		c := anyCall(generatedKernel(number%400), next)
		if kernelHolds(k) {
			valid++
			callNow(t, k, c)
		} else {
			invalid++
			checkNoCall(t, k, c)
			checkPlay(t, k, []impl.Call{c}, impl.Kernel{})
		}
	}
	if valid < 1000 || invalid < 1000 {
		t.Errorf("%d kernels are valid, and %d are not", valid, invalid)
	}
}

// P72 to P92: arguments that a call does not use may be anything.
func TestArgumentsThatAreNotUsed(t *testing.T) {
	uses := []string{"", "N", "A", "ABC", "AB", "A", "ABC", "A", "AN", "AN", "A", "AB"}
	numbers := []int{0, 1, 5, 9999, 10000, -1, math.MinInt, math.MaxInt, 1 << 32}
	names := []string{"", "a", "d", "aaaaa", "\x00"}
	done := [12]int{}
	for number, k := range validKernels()[:120] {
		next := series(number + 8000)
		k = withGoodWords(k, next)
		for i := range 60 {
			c := anyCall(k, next)
			want, value, code := impl.KernelCall(k, c)
			other := impl.Call{Kind: c.Kind, Env: c.Env, A: numbers[i%9], B: numbers[i/9%9], C: numbers[(i+number)%9], Name: names[i%5]}
			for _, use := range uses[c.Kind] {
				switch use {
				case 'A':
					other.A = c.A
				case 'B':
					other.B = c.B
				case 'C':
					other.C = c.C
				case 'N':
					other.Name = c.Name
				}
			}
			got, v, n := impl.KernelCall(k, other)
			if !sameKernel(got, want) || v != value || n != code {
				t.Errorf("KernelCall(%s, %v) is %s, %d, %d, and with %v it is %s, %d, %d", short(k), c, short(want), value, code, other, short(got), v, n)
			}
			if code == 0 {
				done[c.Kind]++
			}
		}
	}
	if slices.Min(done[1:]) == 0 {
		t.Errorf("the calls that are done are, by their kinds, %v", done)
	}
}
