package tests

import (
	"slices"
	"testing"

	"loop.example/exopager/impl"
)

// callsToTry are calls of each kind, done and refused, in a kernel: those of doneCalls, and some of any kind.
func callsToTry(k impl.Kernel, number int) []impl.Call {
	next := series(number + 9000)
	all := doneCalls()
	for range 25 {
		all = append(all, anyCall(k, next))
	}
	for kind := range 13 {
		all = append(all, impl.Call{Kind: kind, Env: kind % 3, A: -5, Name: "d"})
	}
	return all
}

// kernelsToCall are valid kernels of all kinds, in one of which each call of doneCalls is done.
func kernelsToCall() []impl.Kernel {
	return append(validKernels()[:30], withTables(writtenKernel(), 9, []int{23, 0, 0, 31}, []int{1, 2, 3, 4}, []int{0, 33, 0, 35}), orderKernel(), wordsKernel(), settingKernel(6, 1))
}

// P72 to P94: no call changes a kernel, or what lies behind its lists, and none reads that; whether it is done, refused, or invalid.
func TestKernelsAreLeftByCalls(t *testing.T) {
	done := [12]int{}
	for number, start := range append(kernelsToCall(), brokenKernels()...) {
		k, look := roomyKernel(start)
		before := look()
		calls := callsToTry(writtenKernel(), number)
		for _, c := range append(calls, impl.Call{Kind: 1, Env: 3}) {
			want, value, code := impl.KernelCall(start, c)
			if code == 0 {
				done[c.Kind]++
			}
			if got, v, n := impl.KernelCall(k, c); !sameKernel(got, want) || v != value || n != code {
				t.Errorf("KernelCall(%s, %v) is %s, %d, %d, with room behind it, and otherwise %s, %d, %d", short(start), c, short(got), v, n, short(want), value, code)
			}
			if look() != before {
				t.Fatalf("%v changes %s to %s", c, before, look())
			}
		}
		want, codes := impl.KernelPlay(start, calls)
		checkPlay(t, k, calls, want, codes...)
		if look() != before {
			t.Fatalf("KernelPlay changes %s to %s", before, look())
		}
	}
	if slices.Min(done[1:]) == 0 {
		t.Errorf("the calls that are done are, by their kinds, %v", done)
	}
}

// checkCallApart writes to each part of a result, and of an argument, and expects that the other one, and another result, remain as they were, and so do the other parts.
func checkCallApart(t *testing.T, start impl.Kernel, call func(k impl.Kernel) impl.Kernel) {
	t.Helper()
	want := kernelCopy(call(start))
	for _, x := range partsOf() {
		for _, write := range []func(impl.Kernel){x.more, x.spoil} {
			k, look := roomyKernel(start)
			before := look()
			one, two := call(k), call(k)
			write(one)
			if look() != before {
				t.Fatalf("a change of %s of the result changes %s to %s", x.name, before, look())
			}
			if !sameKernel(two, want) {
				t.Fatalf("a change of %s of a result changes another one to %s", x.name, short(two))
			}
			checkOtherParts(t, x.name, one, want)
			write(k)
			if !sameKernel(two, want) {
				t.Fatalf("a change of %s of the argument changes the result to %s", x.name, short(two))
			}
		}
	}
}

// P72 to P94: the result of a call shares nothing with the kernel, with another result, or with itself, also if the call is refused.
func TestResultsOfCallsShareNothing(t *testing.T) {
	for number, start := range kernelsToCall()[20:] {
		for _, c := range callsToTry(start, number) {
			checkCallApart(t, start, func(k impl.Kernel) impl.Kernel {
				after, _, _ := impl.KernelCall(k, c)
				return after
			})
		}
	}
}

// P93, P94: the same for the result of no calls, of one, and of many.
func TestResultsOfPlaysShareNothing(t *testing.T) {
	for number, start := range kernelsToCall() {
		calls := callsToTry(start, number)
		for _, some := range [][]impl.Call{nil, calls[:1], calls[len(calls)-1:], {{Env: 3}}, calls} {
			checkCallApart(t, start, func(k impl.Kernel) impl.Kernel {
				after, _ := impl.KernelPlay(k, some)
				return after
			})
		}
	}
}

// P86, P87: rights that lie in one slice, or that two environments have, are not changed together.
func TestRightsInOneSlice(t *testing.T) {
	store := []string{"a", "b", "c", "cccc", "d", "e"}
	before := slices.Clone(store)
	k := emptyKernel()
	k.Envs[0].Rights, k.Envs[1].Rights, k.Envs[2].Rights = store[:2], store[:2], store[:3]
	for env := range 3 {
		for to := range 3 {
			checkDone(t, k, grantCall(env, to, "aa"), 0, func(k *impl.Kernel) { k.Envs[to].Rights = addedTo(k.Envs[to].Rights, "aa") })
			if to != env {
				checkDone(t, k, revokeCall(env, to, "a"), 0, func(k *impl.Kernel) { k.Envs[to].Rights = slices.Clone(k.Envs[to].Rights[1:]) })
			}
			after, _ := impl.KernelPlay(k, []impl.Call{grantCall(env, to, "ab"), grantCall(env, to, "b"), revokeCall((to+1)%3, to, "a")})
			if !slices.Equal(after.Envs[to].Rights, k.Envs[to].Rights[1:]) || !slices.Equal(store, before) {
				t.Errorf("the rights are %v, and those of before %v", after.Envs, store)
			}
		}
	}
}

// P93: the calls are not changed, and neither they nor the codes share anything with what else is there.
func TestCallsAndCodesAreApart(t *testing.T) {
	for number, k := range kernelsToCall() {
		store := callsToTry(k, number)
		before := slices.Clone(store)
		calls := store[:9]
		want, codes := impl.KernelPlay(k, slices.Clone(calls))
		one, first := impl.KernelPlay(k, calls)
		two, second := impl.KernelPlay(k, calls)
		if !sameKernel(one, want) || !slices.Equal(first, codes) || !slices.Equal(store, before) {
			t.Errorf("KernelPlay(%s, %s) is %s, %v, and with room behind the calls %s, %v", short(k), short(calls), short(want), codes, short(one), first)
		}
		longer := append(second, 7)
		_ = append(first, -7, -7)
		for i := range first[:cap(first)] {
			first[:cap(first)][i] = -7
		}
		for i := range store {
			store[i] = impl.Call{Kind: 3, Env: 1, A: -7, Name: "spoiled"}
		}
		if !slices.Equal(second, codes) || !slices.Equal(longer, append(codes, 7)) || !sameKernel(one, want) || !sameKernel(two, want) {
			t.Errorf("a change of codes or calls changes %v to %v, or %s to %s and %s", codes, second, short(want), short(one), short(two))
		}
	}
}

// P93: all frames may be one and the same slice; a call changes only one of them in its result.
func TestCallsInOneSlice(t *testing.T) {
	words := []int{0, 0, 0, 0}
	k := impl.Kernel{Memory: slices.Repeat([][]int{words}, 12), Infos: slices.Repeat([]impl.Info{info(1, "a", 0)}, 12), Envs: slices.Repeat([]impl.Env{{Rights: []string{"a"}, Root: -1}}, 3)}
	after, _, code := impl.KernelCall(k, pokeCall(0, 7, 2, 9))
	if code != 0 || !slices.Equal(words, []int{0, 0, 0, 0}) || !sameMemory(after.Memory, framesMemory(7, 0, 0, 9, 0)) {
		t.Errorf("the code is %d, the words are %v, and the memory %v", code, words, after.Memory)
	}
	after, _, code = impl.KernelCall(k, grantCall(0, 1, "ab"))
	if code != 0 || len(after.Envs[0].Rights)+len(after.Envs[2].Rights) != 2 || len(after.Envs[1].Rights) != 2 {
		t.Errorf("the code is %d, and the environments are %v", code, after.Envs)
	}
}

// P72 to P94: a call depends on nothing that earlier calls did.
func TestNoCallIsKept(t *testing.T) {
	k := orderKernel()
	for range 3 {
		checkDone(t, k, takeCall(0, "a"), 10, func(k *impl.Kernel) { k.Infos[10], k.Memory[10] = info(1, "a", 0), []int{0, 0, 0, 0} })
		checkCode(t, k, giveCall(0, 5), 0)
		checkCode(t, k, pinCall(0, 5, 2), 0)
		checkCode(t, k, grantCall(0, 1, "a"), 0)
		checkRefused(t, k, rootCall(1, 0), 1)
		checkPlay(t, k, []impl.Call{giveCall(0, 5), giveCall(0, 5)}, changedKernel(k, func(k *impl.Kernel) { k.Infos[5] = impl.Info{} }), 0, 3)
		checkPlay(t, k, nil, k)
		checkNoCall(t, impl.Kernel{}, takeCall(0, "a"))
	}
}
