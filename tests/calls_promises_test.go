package tests

import (
	"slices"
	"testing"

	"loop.example/exopager/impl"
)

// outcome is a call in a valid kernel, and what KernelCall returns for both.
type outcome struct {
	k     impl.Kernel
	call  impl.Call
	after impl.Kernel
	value int
	code  int
}

// may tells whether the environment of the call has a right.
func (x outcome) may(guard string) bool {
	return impl.RightsMay(x.k.Envs[x.call.Env].Rights, guard)
}

// eachOutcome goes through calls of all kinds in all valid kernels, with sequences that begin there. It fails unless the promise is asked for often enough.
func eachOutcome(t *testing.T, least int, promise func(x outcome) (bool, bool)) {
	t.Helper()
	asked := 0
	for number, k := range validKernels() {
		next := series(number + 10000)
		k = withGoodWords(k, next)
		for i := range 40 {
			c := anyCall(k, next)
			after, value, code := impl.KernelCall(k, c)
			x := outcome{k, c, after, value, code}
			holds, meant := promise(x)
			if meant {
				asked++
			}
			if meant && !holds {
				t.Fatalf("KernelCall(%s, %v) is %s, %d, %d", short(k), c, short(after), value, code)
			}
			if i%8 < 7 {
				k = after
			} else {
				k = withGoodWords(k, next)
			}
		}
	}
	if asked < least {
		t.Errorf("only %d calls are looked at", asked)
	}
}

// doneOf tells whether the call has a kind and is done.
func (x outcome) doneOf(kind int) bool {
	return x.call.Kind == kind && x.code == 0
}

// changesOnly tells whether all is as it was but for some parts: m is the memory, i the list of frames, e the environments, and c the cache.
func (x outcome) changesOnly(parts string) bool {
	want := kernelCopy(x.k)
	for _, part := range parts {
		switch part {
		case 'm':
			want.Memory = x.after.Memory
		case 'i':
			want.Infos = x.after.Infos
		case 'e':
			want.Envs = x.after.Envs
		case 'c':
			want.Cache = x.after.Cache
		}
	}
	return sameKernel(x.after, want)
}

// P72, P73, P74
func TestPromisesOfAllCalls(t *testing.T) {
	eachOutcome(t, 10000, func(x outcome) (bool, bool) {
		if !impl.KernelValid(x.after) || x.code < 0 || x.code > 4 {
			return false, true
		}
		if x.code != 0 {
			return x.value == 0 && sameKernel(x.after, x.k), true
		}
		return x.value == 0 || x.call.Kind == 1 || x.call.Kind == 10, true
	})
}

// P75: the words, the kind and the right of frames for which the environment has no right.
func TestFramesOfOthersRemain(t *testing.T) {
	eachOutcome(t, 10000, func(x outcome) (bool, bool) {
		for frame, y := range x.k.Infos {
			now := x.after.Infos[frame]
			if y.Kind != 0 && !x.may(y.Guard) && (!slices.Equal(x.after.Memory[frame], x.k.Memory[frame]) || now.Kind != y.Kind || now.Guard != y.Guard) {
				return false, true
			}
		}
		return true, true
	})
}

// P76: the upper tables of other environments, and their rights.
func TestOtherEnvironmentsRemain(t *testing.T) {
	eachOutcome(t, 10000, func(x outcome) (bool, bool) {
		for env, e := range x.k.Envs {
			now := x.after.Envs[env]
			if env != x.call.Env && now.Root != e.Root {
				return false, true
			}
			if x.call.Kind != 8 && x.call.Kind != 9 && !slices.Equal(now.Rights, e.Rights) {
				return false, true
			}
			if env != x.call.A && !slices.Equal(now.Rights, e.Rights) {
				return false, true
			}
		}
		return true, true
	})
}

// P78, P79
func TestPromisesOfTakes(t *testing.T) {
	eachOutcome(t, 100, func(x outcome) (bool, bool) {
		if !x.doneOf(1) {
			return false, false
		}
		list, frame, ok := impl.InfosTake(x.k.Infos, x.call.Name)
		m, _ := impl.MemoryClear(x.k.Memory, frame)
		return ok && frame == x.value && slices.Equal(x.after.Infos, list) && sameMemory(x.after.Memory, m) && x.changesOnly("mi"), true
	})
	eachOutcome(t, 500, func(x outcome) (bool, bool) {
		full := impl.InfosFree(x.k.Infos) == 0
		switch {
		case x.call.Kind != 1:
			return false, false
		case !impl.RightValid(x.call.Name):
			return x.code == 3, true
		case !x.may(x.call.Name):
			return x.code == 1, true
		case full:
			return x.code == 4, true
		}
		return x.code == 0, true
	})
}

// P80, P81
func TestPromisesOfGivesAndPokes(t *testing.T) {
	eachOutcome(t, 300, func(x outcome) (bool, bool) {
		switch {
		case x.doneOf(2):
			list, ok := impl.InfosGive(x.k.Infos, x.call.A)
			return ok && slices.Equal(x.after.Infos, list) && x.changesOnly("i"), true
		case x.doneOf(3):
			m, ok := impl.MemoryPut(x.k.Memory, x.call.A, x.call.B, x.call.C)
			y := x.k.Infos[x.call.A]
			return ok && sameMemory(x.after.Memory, m) && y.Kind == 1 && x.may(y.Guard) && x.changesOnly("m"), true
		}
		return false, false
	})
}

// P82
func TestPromisesOfPins(t *testing.T) {
	eachOutcome(t, 200, func(x outcome) (bool, bool) {
		switch {
		case x.doneOf(4):
			list, code := impl.TablePin(x.k.Memory, x.k.Infos, x.call.A, x.call.B, x.k.Envs[x.call.Env].Rights)
			return code == 0 && slices.Equal(x.after.Infos, list) && x.changesOnly("i"), true
		case x.doneOf(5):
			list, code := impl.TableUnpin(x.k.Memory, x.k.Infos, x.call.A)
			return code == 0 && slices.Equal(x.after.Infos, list) && x.changesOnly("i"), true
		}
		return false, false
	})
}

// P83, P84
func TestPromisesOfSets(t *testing.T) {
	eachOutcome(t, 100, func(x outcome) (bool, bool) {
		if !x.doneOf(6) {
			return false, false
		}
		frame, _, names := impl.EntryGet(x.call.C)
		if names && !x.may(x.k.Infos[frame].Guard) {
			return false, true
		}
		cache := x.k.Cache
		for env, e := range x.k.Envs {
			if !slices.Contains(impl.KernelReach(x.k, env), x.call.A) {
				continue
			}
			cache = impl.CacheDrop(cache, env)
			if names && !impl.RightsMay(e.Rights, x.k.Infos[frame].Guard) {
				return false, true
			}
		}
		m, ok := impl.MemoryPut(x.k.Memory, x.call.A, x.call.B, x.call.C)
		return ok && sameMemory(x.after.Memory, m) && slices.Equal(x.after.Cache, cache) && x.changesOnly("mic"), true
	})
}

// P85
func TestPromisesOfRoots(t *testing.T) {
	eachOutcome(t, 100, func(x outcome) (bool, bool) {
		if !x.doneOf(7) {
			return false, false
		}
		cache := impl.CacheDrop(x.k.Cache, x.call.Env)
		one, two := x.k.Envs[x.call.Env], x.after.Envs[x.call.Env]
		return two.Root == x.call.A && slices.Equal(two.Rights, one.Rights) && slices.Equal(x.after.Cache, cache) && x.changesOnly("iec"), true
	})
}

// P86, P87
func TestPromisesOfGrantsAndRevokes(t *testing.T) {
	eachOutcome(t, 300, func(x outcome) (bool, bool) {
		if !x.doneOf(8) && !x.doneOf(9) {
			return false, false
		}
		rights := x.after.Envs[x.call.A].Rights
		want, ok := impl.RightsAdd(x.k.Envs[x.call.A].Rights, x.call.Name)
		if x.call.Kind == 9 {
			want, ok = impl.RightsDrop(x.k.Envs[x.call.A].Rights, x.call.Name), true
		}
		for _, frame := range impl.KernelReach(x.k, x.call.A) {
			ok = ok && impl.RightsMay(rights, x.k.Infos[frame].Guard)
		}
		return ok && slices.Equal(rights, want) && x.may(x.call.Name) && x.changesOnly("e"), true
	})
}

// P89, P90, P91, P92
func TestPromisesOfLoadsAndStores(t *testing.T) {
	eachOutcome(t, 1000, func(x outcome) (bool, bool) {
		word, seen := impl.KernelSees(x.k, x.call.Env, x.call.A)
		place, walked := impl.Walk(x.k.Memory, x.k.Envs[x.call.Env].Root, x.call.A)
		again, _, _ := impl.KernelCall(x.after, loadCall(x.call.Env, x.call.A))
		cached, found := impl.CacheFind(x.after.Cache, x.call.Env, x.call.A/4)
		kept := found && sameKernel(again, x.after) && cached.Frame == place.Frame && cached.Write == place.Write
		switch {
		case x.call.Kind == 10:
			return seen == (x.code == 0) && x.value == word && x.changesOnly("c") && (x.code != 0 || kept), true
		case x.doneOf(11):
			now, ok := impl.KernelSees(x.after, x.call.Env, x.call.A)
			m, fine := impl.MemoryPut(x.k.Memory, place.Frame, place.At, x.call.B)
			return ok && fine && now == x.call.B && walked == 0 && place.Write && sameMemory(x.after.Memory, m) && kept && x.changesOnly("mc"), true
		case x.call.Kind == 11 && seen && within(x.call.B, 10000):
			return x.code == 1 && !place.Write, true
		}
		return x.code == 3, x.call.Kind == 11
	})
}
