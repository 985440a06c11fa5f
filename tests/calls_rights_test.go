package tests

import (
	"slices"
	"testing"

	"loop.example/exopager/impl"
)

// sharingKernel is writtenKernel without upper tables, in which environment 0 has all rights.
func sharingKernel() impl.Kernel {
	k := withCache(writtenKernel())
	for env := range 3 {
		k = withRoot(k, env, -1)
	}
	return withRights(k, 0, "")
}

// P86: rights of each number, to which each right of up to two letters and some longer ones are added: there already, included in a shorter one, shorter than others, and new.
func TestGrantsOfManyRights(t *testing.T) {
	full := 0
	for i, list := range append(writtenRights(), mixedRights()[:100]...) {
		env := i%2 + 1
		k := withRights(sharingKernel(), env, list...)
		for _, s := range append(slices.Clone(shortRights), append(slices.Clone(list), "aaa", "abca", "cccc")...) {
			if want := addedTo(list, s); len(want) <= 6 {
				checkDone(t, k, grantCall(0, env, s), 0, func(k *impl.Kernel) { k.Envs[env].Rights = want })
			} else {
				checkRefused(t, k, grantCall(0, env, s), 4)
				full++
			}
		}
	}
	if full < 100 {
		t.Errorf("only %d times, there are too many rights", full)
	}
}

// P86: each environment grants to each one, itself included, what it has and what it has not: the right itself, longer ones, and all others.
func TestGrantsOfEachToEach(t *testing.T) {
	for _, s := range eachRight {
		for env := range 3 {
			k := withRights(orderKernel(), 2, "ab", "acc", "b")
			for to := range 3 {
				if mayBy(k.Envs[env].Rights, s) {
					checkDone(t, k, grantCall(env, to, s), 0, func(k *impl.Kernel) { k.Envs[to].Rights = addedTo(k.Envs[to].Rights, s) })
				} else {
					checkRefused(t, k, grantCall(env, to, s), 1)
				}
			}
			checkRefused(t, k, grantCall(env, -1, s), 3)
			checkRefused(t, k, grantCall(env, 3, s), 3)
		}
	}
}

// P86: as many rights as there may be, of an environment that grants to itself, and of another one; a right that is there has room.
func TestGrantsWithSixRights(t *testing.T) {
	six := []string{"a", "ab", "b", "bc", "c", "ca"}
	for env := range 3 {
		k := withRights(withRights(orderKernel(), env, six...), (env+1)%3, six...)
		for _, s := range six {
			checkDone(t, k, grantCall(env, env, s), 0, func(k *impl.Kernel) {})
			checkDone(t, k, grantCall(env, (env+1)%3, s), 0, func(k *impl.Kernel) {})
		}
		for _, s := range []string{"aa", "aba", "bcbc", "cc", "caaa"} {
			checkRefused(t, k, grantCall(env, env, s), 4)
			checkRefused(t, k, grantCall(env, (env+1)%3, s), 4)
			checkCode(t, k, grantCall(env, (env+2)%3, s), 0)
		}
		checkRefused(t, k, grantCall(env, (env+1)%3, ""), 1)
		five := withRights(k, (env+1)%3, six[:5]...)
		checkDone(t, five, grantCall(env, (env+1)%3, "aa"), 0, func(k *impl.Kernel) { k.Envs[(env+1)%3].Rights = []string{"a", "aa", "ab", "b", "bc", "c"} })
	}
}

// P73, P86, P87: rights that are granted to no environment, or taken from none, near the others and far away; and names that are no rights.
func TestRightsOfNoEnvironment(t *testing.T) {
	k := allAllowed(orderKernel())
	for i, to := range noneOf(3) {
		checkRefused(t, k, grantCall(i%3, to, "a"), 3)
		checkRefused(t, k, revokeCall(i%3, to, "cc"), 3)
	}
	for i, s := range badTexts() {
		if i%7 == 0 {
			checkRefused(t, k, grantCall(i%3, (i+1)%3, s), 3)
			checkRefused(t, k, grantCall(i%3, i%3, s), 3)
			checkRefused(t, k, revokeCall(i%3, (i+1)%3, s), 3)
		}
	}
	for i, s := range someBadTexts() {
		checkRefused(t, k, grantCall(i%3, (i+2)%3, s), 3)
		checkRefused(t, k, revokeCall(i%3, (i+2)%3, s), 3)
		checkRefused(t, k, revokeCall(i%3, 3, s), 3)
	}
}

// P87: rights of each number, from which are taken what a right includes: all, some, one, and none.
func TestRevokesOfManyRights(t *testing.T) {
	less := 0
	for i, list := range append(writtenRights(), mixedRights()[:100]...) {
		env := i%2 + 1
		k := withRights(sharingKernel(), env, list...)
		for _, s := range append(slices.Clone(shortRights), append(slices.Clone(list), "aaa", "abca", "cccc")...) {
			want := droppedFrom(list, s)
			checkDone(t, k, revokeCall(0, env, s), 0, func(k *impl.Kernel) { k.Envs[env].Rights = want })
			less += len(list) - len(want)
		}
	}
	if less < 500 {
		t.Errorf("only %d rights are taken", less)
	}
}

// P87: each environment takes from each other one what it has and what it has not, and nothing from itself.
func TestRevokesOfEachFromEach(t *testing.T) {
	for _, s := range eachRight {
		for env := range 3 {
			k := withRoot(withRights(orderKernel(), 2, "ab", "acc", "b"), 0, -1)
			for from := range 3 {
				switch {
				case env == from:
					checkRefused(t, k, revokeCall(env, from, s), 3)
				case mayBy(k.Envs[env].Rights, s):
					checkDone(t, k, revokeCall(env, from, s), 0, func(k *impl.Kernel) { k.Envs[from].Rights = droppedFrom(k.Envs[from].Rights, s) })
				default:
					checkRefused(t, k, revokeCall(env, from, s), 1)
				}
			}
		}
	}
}

// P87: guardedKernel can reach six frames, each of which needs another right: none of them can be taken. A right can that is included in another one that stays, or that is for a
// frame that can no longer be reached.
func TestRevokesOfRightsThatAreNeeded(t *testing.T) {
	for i := range 36 {
		env, other, by := i%3, (i+1+i/3%2)%3, i%12
		start := turnedKernel(withRights(guardedKernel(env), other, ""), by)
		drop := func(k impl.Kernel, s string, rights ...string) {
			t.Helper()
			checkDone(t, k, revokeCall(other, env, s), 0, func(k *impl.Kernel) { k.Envs[env].Rights = rights })
		}
		for _, s := range []string{"", "a", "b"} {
			checkRefused(t, start, revokeCall(other, env, s), 2)
		}
		for frame := range 6 {
			guard := guardedKernel(env).Infos[frame].Guard
			rights := start.Envs[env].Rights
			rest := slices.DeleteFunc(slices.Clone(rights), func(s string) bool { return s == guard })
			checkRefused(t, start, revokeCall(other, env, guard), 2)
			drop(start, guard+"c", rights...)
			drop(turnedKernel(withRights(unreached(env, frame), other, ""), by), guard, rest...)
			wide := withRights(start, env, addedTo([]string{"a", "b", "c"}, guard)...)
			drop(wide, guard, "a", "b", "c")
			drop(wide, "c", addedTo([]string{"a", "b"}, guard)...)
			checkRefused(t, wide, revokeCall(other, env, guard[:1]), 2)
			checkRefused(t, wide, revokeCall(other, env, ""), 2)
			all := withRights(start, env, addedTo([]string{""}, guard)...)
			drop(all, guard, "")
			checkRefused(t, all, revokeCall(other, env, ""), 2)
		}
	}
}

// P87: what the environment itself and others reach makes no difference, and neither do frames that nobody reaches.
func TestRevokesOfRightsThatOthersNeed(t *testing.T) {
	for env := range 3 {
		one, two := (env+1)%3, (env+2)%3
		k := withRights(withRights(guardedKernel(env), one, "a", "aa", "b"), two, "aa", "b")
		checkDone(t, k, revokeCall(env, one, "aa"), 0, func(k *impl.Kernel) { k.Envs[one].Rights = []string{"a", "b"} })
		checkDone(t, k, revokeCall(one, two, "a"), 0, func(k *impl.Kernel) { k.Envs[two].Rights = []string{"b"} })
		checkRefused(t, k, revokeCall(one, env, "a"), 2)
		checkRefused(t, k, revokeCall(two, env, "aa"), 2)
		both := withRoot(k, one, 0)
		checkRefused(t, both, revokeCall(env, one, "b"), 1)
		checkDone(t, both, revokeCall(env, one, "aa"), 0, func(k *impl.Kernel) { k.Envs[one].Rights = []string{"a", "b"} })
	}
}

// P88: what was granted to another environment can be taken again, unless it is needed; then the environment has it no more, or by a shorter right.
func TestGrantsThenRevokes(t *testing.T) {
	done, busy := 0, 0
	for number, k := range validKernels() {
		for i, s := range eachRight {
			env, to := (number+i)%3, (number+i+1+i/3%2)%3
			granted, _, code := impl.KernelCall(k, grantCall(env, to, s))
			if code != 0 {
				continue
			}
			after, code := callNow(t, granted, revokeCall(env, to, s))
			rights := after.Envs[to].Rights
			switch {
			case code == 2:
				busy++
			case code != 0 || slices.Contains(rights, s) || impl.RightsMay(rights, s) && !shorterMay(rights, s):
				t.Errorf("after %q, granted and taken again, the code is %d, and %d has %q", s, code, to, rights)
			default:
				done++
			}
		}
	}
	if done < 500 || busy < 20 {
		t.Errorf("%d rights are taken, and %d are needed", done, busy)
	}
}

// shorterMay tells whether one of the rights that are shorter than another one includes it.
func shorterMay(rights []string, s string) bool {
	return slices.ContainsFunc(rights, func(x string) bool { return len(x) < len(s) && includes[[2]string{x, s}] })
}

// P86, P87: an environment can do at once what a right allows that was granted to it, and no more when it was taken again.
func TestRightsCountAtOnce(t *testing.T) {
	k := orderKernel()
	checkRefused(t, k, giveCall(1, 5), 1)
	k, _ = callNow(t, k, grantCall(0, 1, "a"))
	checkCode(t, k, giveCall(1, 5), 0)
	checkCode(t, k, takeCall(1, "aba"), 0)
	checkCode(t, k, rootCall(1, 0), 0)
	checkCode(t, k, grantCall(1, 2, "ac"), 0)
	k, _ = callNow(t, k, revokeCall(0, 1, "a"))
	checkRefused(t, k, giveCall(1, 5), 1)
	checkRefused(t, k, takeCall(1, "aba"), 1)
	checkRefused(t, k, rootCall(1, 0), 1)
	checkRefused(t, k, grantCall(1, 2, "ac"), 1)
	k, _ = callNow(t, k, grantCall(0, 1, "a"))
	k, _ = callNow(t, k, rootCall(1, 0))
	checkRefused(t, k, revokeCall(0, 1, "a"), 2)
	checkRefused(t, k, revokeCall(1, 0, "a"), 2)
	checkCode(t, k, revokeCall(1, 0, "ab"), 0)
	k, _ = callNow(t, k, rootCall(1, -1))
	checkCode(t, k, revokeCall(0, 1, "a"), 0)
}
