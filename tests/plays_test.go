package tests

import (
	"slices"
	"testing"

	"loop.example/exopager/impl"
)

// spaceCalls make a space of new frames of an environment, under a right: an upper table, a lower table, and data, which page 0 leads to; and they store and load a word of it.
// In a new kernel, these are the frames 0, 1 and 2.
func spaceCalls(env int, name string) []impl.Call {
	return []impl.Call{
		takeCall(env, name),
		takeCall(env, name),
		takeCall(env, name),
		pokeCall(env, 1, 0, 11),
		pinCall(env, 1, 2),
		pinCall(env, 0, 3),
		setCall(env, 0, 0, 7),
		rootCall(env, 0),
		storeCall(env, 3, 77),
		loadCall(env, 3),
	}
}

// P93: calls that are written out, all of which are done, in a new kernel.
func TestWrittenPlay(t *testing.T) {
	for env := range 3 {
		k := newOf(t, [][]string{{"a"}, {"a"}, {"a"}})
		want := changedKernel(k, func(k *impl.Kernel) {
			k.Memory[0][0], k.Memory[1][0], k.Memory[2][3] = 7, 11, 77
			k.Infos[0], k.Infos[1], k.Infos[2] = info(3, "ab", 1), info(2, "ab", 1), info(1, "ab", 1)
			k.Envs[env].Root = 0
			k.Cache = []impl.Cached{{Env: env, Page: 0, Frame: 2, Write: true}}
		})
		checkPlay(t, k, spaceCalls(env, "ab"), want, 0, 0, 0, 0, 0, 0, 0, 0, 0, 0)
		checkPlay(t, k, spaceCalls(env, "b"), k, 1, 1, 1, 3, 3, 3, 3, 3, 3, 3)
		other := (env + 1) % 3
		both := changedKernel(want, func(k *impl.Kernel) {
			k.Infos[0].Refs, k.Envs[other].Root = 2, 0
			k.Cache = []impl.Cached{{Env: other, Page: 0, Frame: 2, Write: true}}
		})
		checkPlay(t, want, spaceCalls(other, "aa")[3:], both, 3, 2, 2, 0, 0, 0, 0)
	}
}

// P93: calls with each of the codes among each other, in writtenKernel; what is refused changes nothing for those behind it.
func TestWrittenPlayWithAllCodes(t *testing.T) {
	k := writtenKernel()
	calls := []impl.Call{
		takeCall(0, "b"), takeCall(0, "ab"), takeCall(0, "a"), takeCall(3, "a"), giveCall(0, 5), giveCall(0, 10), takeCall(1, "d"), loadCall(-1, 0),
		loadCall(0, 0), storeCall(0, 12, 5), storeCall(0, 0, 5), loadCall(0, 16), {Kind: 12}, {Kind: 0, Env: 2}, {Kind: 12, Env: 3},
		revokeCall(2, 0, "a"), rootCall(0, -1), revokeCall(2, 0, "a"), giveCall(0, 1),
	}
	want := changedKernel(k, func(k *impl.Kernel) {
		k.Memory[10], k.Memory[5][0] = []int{0, 0, 0, 0}, 5
		k.Infos[10], k.Infos[0].Refs = impl.Info{}, 0
		k.Envs[0] = impl.Env{Root: -1}
		k.Cache = []impl.Cached{{Env: 1, Page: 7, Frame: 7, Write: true}, {Env: 2, Page: 8, Frame: 6}}
	})
	checkPlay(t, k, calls, want, 1, 0, 4, 5, 2, 0, 3, 5, 0, 1, 0, 3, 3, 3, 5, 2, 0, 0, 1)
}

// P93: no calls change nothing, and one call is what KernelCall returns; one of no environment changes nothing either.
func TestPlaysOfNoCallAndOne(t *testing.T) {
	for number, k := range validKernels() {
		checkPlay(t, k, nil, k)
		checkPlay(t, k, []impl.Call{}, k)
		next := series(number + 500)
		for range 10 {
			c := anyCall(k, next)
			want, _, code := called(k, c)
			checkPlay(t, k, []impl.Call{c}, want, code)
			for _, env := range []int{-1, 3, 4, 256, 1 << 32} {
				c.Env = env
				checkPlay(t, k, []impl.Call{c}, k, 5)
			}
		}
	}
}

// P93: many calls are KernelCall of all of them, one after the other.
func TestPlaysOfManyCalls(t *testing.T) {
	for number := range 100 {
		k := generatedKernel(number)
		if number%3 == 0 {
			k = newOf(t, [][]string{{"a"}, {"b", "c"}, {""}})
		}
		calls, kernels := sequenceOf(k, 60, series(number+2000))
		codes, now := []int{}, k
		for i, c := range calls {
			next, _, code := impl.KernelCall(now, c)
			if !sameKernel(next, kernels[i+1]) {
				t.Errorf("call %d leads to %s, not %s", i, short(next), short(kernels[i+1]))
			}
			now, codes = next, append(codes, code)
		}
		checkPlay(t, k, calls, now, codes...)
	}
	many := slices.Repeat([]impl.Call{takeCall(0, "a"), pokeCall(0, 0, 0, 5), giveCall(0, 0), takeCall(3, "a")}, 500)
	k := newOf(t, [][]string{{"a"}, nil, nil})
	want := changedKernel(k, func(k *impl.Kernel) { k.Memory[0][0] = 5 })
	checkPlay(t, k, many, want, slices.Repeat([]int{0, 0, 0, 5}, 500)...)
}

// P94: sequences that are divided at each place lead to the same kernel, with the same codes.
func TestPlaysThatAreDivided(t *testing.T) {
	for number := range 40 {
		k := generatedKernel(number * 3)
		calls, _ := sequenceOf(k, 30, series(number+3000))
		whole, codes := impl.KernelPlay(k, calls)
		for at := range len(calls) + 1 {
			first, some := impl.KernelPlay(k, calls[:at])
			second, more := impl.KernelPlay(first, calls[at:])
			if !sameKernel(second, whole) || !slices.Equal(slices.Concat(some, more), codes) || len(some) != at {
				t.Errorf("KernelPlay(%s, %s), divided at %d, is %s, %v, %v, not %s, %v", short(k), short(calls), at, short(second), some, more, short(whole), codes)
			}
		}
	}
}

// P93: calls of no environment between others, at each place, change nothing and have a code of their own.
func TestPlaysWithCallsOfNobody(t *testing.T) {
	nobody := []int{-1, 3, 12, -3, 255, 256, 1<<32 + 1, -1 << 63, 1<<63 - 1}
	for number := range 30 {
		k := generatedKernel(number*5 + 1)
		calls, kernels := sequenceOf(k, 12, series(number+4000))
		want := kernels[len(calls)]
		_, codes := impl.KernelPlay(k, calls)
		for at := range len(calls) + 1 {
			c := anyCall(k, series(number+at))
			c.Env = nobody[(number+at)%len(nobody)]
			checkPlay(t, k, slices.Insert(slices.Clone(calls), at, c), want, slices.Insert(slices.Clone(codes), at, 5)...)
			two := slices.Insert(slices.Clone(calls), at, c, impl.Call{Env: 3})
			checkPlay(t, k, two, want, slices.Insert(slices.Clone(codes), at, 5, 5)...)
		}
	}
}

// P72: each kernel to which a sequence leads is valid, however long it is.
func TestPlaysLeadToValidKernels(t *testing.T) {
	for number, k := range validKernels() {
		calls, _ := sequenceOf(k, 20, series(number+6000))
		after, codes := impl.KernelPlay(k, calls)
		checkKernel(t, after, true)
		if !kernelHolds(after) || len(codes) != 20 {
			t.Errorf("KernelPlay(%s, %s) is %s, %v", short(k), short(calls), short(after), codes)
		}
	}
}
