package tests

import (
	"testing"

	"loop.example/exopager/impl"
)

func TestConstantsOfCalls(t *testing.T) {
	codes := []int{impl.CallDone, impl.CallRights, impl.CallBusy, impl.CallBad, impl.CallFull, impl.CallInvalid}
	for want, got := range codes {
		if got != want {
			t.Errorf("code %d is %d", want, got)
		}
	}
	kinds := []int{impl.CallTake, impl.CallGive, impl.CallPoke, impl.CallPin, impl.CallUnpin, impl.CallSet, impl.CallRoot, impl.CallGrant, impl.CallRevoke, impl.CallLoad, impl.CallStore}
	for i, got := range kinds {
		if got != i+1 {
			t.Errorf("kind %d is %d", i+1, got)
		}
	}
}

// P73, P78, P80, P81, P82: calls about frames that are done in writtenKernel, written out.
func TestWrittenCallsOfFrames(t *testing.T) {
	k := writtenKernel()
	checkDone(t, k, takeCall(0, "a"), 10, func(k *impl.Kernel) { k.Infos[10], k.Memory[10] = info(1, "a", 0), []int{0, 0, 0, 0} })
	checkDone(t, k, takeCall(1, "acab"), 10, func(k *impl.Kernel) { k.Infos[10], k.Memory[10] = info(1, "acab", 0), []int{0, 0, 0, 0} })
	checkDone(t, k, takeCall(2, ""), 10, func(k *impl.Kernel) { k.Infos[10], k.Memory[10] = info(1, "", 0), []int{0, 0, 0, 0} })
	checkDone(t, k, unpinCall(2, 11), 0, func(k *impl.Kernel) {
		k.Infos[11], k.Infos[8].Refs, k.Infos[9].Refs = info(1, "cccc", 0), 2, 0
	})
	k = withTables(k, 11, []int{0, 0, 0, 0})
	checkDone(t, k, unpinCall(2, 11), 0, func(k *impl.Kernel) { k.Infos[11] = info(1, "cccc", 0) })
	checkDone(t, k, giveCall(2, 9), 0, func(k *impl.Kernel) { k.Infos[9] = impl.Info{} })
	checkDone(t, k, pokeCall(2, 9, 0, 9999), 0, func(k *impl.Kernel) { k.Memory[9][0] = 9999 })
	checkDone(t, k, pokeCall(0, 6, 3, 0), 0, func(k *impl.Kernel) { k.Memory[6][3] = 0 })
	checkDone(t, k, pokeCall(1, 8, 1, 1), 0, func(k *impl.Kernel) { k.Memory[8][1] = 1 })
	for kind, words := range [][]int{{23, 35, 29, 35}, {17, 45, 0, 47}} {
		other := withTables(k, 9, words)
		checkDone(t, other, pinCall(2, 9, 2+kind), 0, func(k *impl.Kernel) {
			k.Infos[9].Kind = 2 + kind
			for frame, by := range []map[int]int{{5: 1, 7: 1, 8: 2}, {4: 1, 11: 2}}[kind] {
				k.Infos[frame].Refs += by
			}
		})
	}
}

// P83 to P87: calls about tables and rights that are done in writtenKernel, written out. Its translations are, of the environments 0, 1, 2 and 0, the pages 0, 7, 8 and 15.
func TestWrittenCallsOfTablesAndRights(t *testing.T) {
	k := writtenKernel()
	checkDone(t, k, setCall(0, 1, 0, 29), 0, func(k *impl.Kernel) {
		k.Memory[1][0], k.Infos[5].Refs, k.Infos[7].Refs = 29, 1, 3
		k.Cache = []impl.Cached{{Env: 1, Page: 7, Frame: 7, Write: true}, {Env: 2, Page: 8, Frame: 6}}
	})
	checkDone(t, k, setCall(2, 2, 3, 0), 0, func(k *impl.Kernel) { k.Memory[2][3], k.Infos[7].Refs, k.Cache = 0, 1, nil })
	checkDone(t, k, setCall(1, 3, 0, 19), 0, func(k *impl.Kernel) {
		k.Memory[3][0], k.Infos[4].Refs = 19, 2
		k.Cache = []impl.Cached{{Env: 0, Page: 0, Frame: 5, Write: true}, {Env: 0, Page: 15, Frame: 5}}
	})
	checkDone(t, k, setCall(2, 11, 1, 23), 0, func(k *impl.Kernel) { k.Memory[11][1], k.Infos[5].Refs = 23, 3 })
	checkDone(t, k, rootCall(0, -1), 0, func(k *impl.Kernel) {
		k.Envs[0].Root, k.Infos[0].Refs = -1, 0
		k.Cache = []impl.Cached{{Env: 1, Page: 7, Frame: 7, Write: true}, {Env: 2, Page: 8, Frame: 6}}
	})
	checkDone(t, k, rootCall(2, 0), 0, func(k *impl.Kernel) {
		k.Envs[2].Root, k.Infos[3].Refs, k.Infos[0].Refs = 0, 1, 2
		k.Cache = []impl.Cached{{Env: 0, Page: 0, Frame: 5, Write: true}, {Env: 1, Page: 7, Frame: 7, Write: true}, {Env: 0, Page: 15, Frame: 5}}
	})
	checkDone(t, k, grantCall(0, 1, "aa"), 0, func(k *impl.Kernel) { k.Envs[1].Rights = []string{"aa", "ab", "aca", "b"} })
	checkDone(t, k, grantCall(2, 0, ""), 0, func(k *impl.Kernel) { k.Envs[0].Rights = []string{"", "a"} })
	checkDone(t, k, grantCall(1, 1, "b"), 0, func(k *impl.Kernel) {})
	checkDone(t, k, revokeCall(1, 2, "b"), 0, func(k *impl.Kernel) {})
	checkDone(t, k, revokeCall(2, 0, "aa"), 0, func(k *impl.Kernel) {})
	checkDone(t, withRoot(k, 1, -1), revokeCall(0, 1, "a"), 0, func(k *impl.Kernel) { k.Envs[1].Rights = []string{"b"} })
	checkDone(t, withRoot(k, 1, -1), revokeCall(2, 1, ""), 0, func(k *impl.Kernel) { k.Envs[1].Rights = nil })
}

// P89, P90, P91: calls about words that are done in writtenKernel, written out.
func TestWrittenCallsOfWords(t *testing.T) {
	k := writtenKernel()
	checkDone(t, k, loadCall(0, 0), 51, func(k *impl.Kernel) {})
	checkDone(t, k, loadCall(0, 63), 9999, func(k *impl.Kernel) {})
	checkDone(t, k, loadCall(2, 34), 64, func(k *impl.Kernel) {})
	checkDone(t, k, loadCall(0, 5), 62, func(k *impl.Kernel) {
		k.Cache = append(k.Cache[1:], impl.Cached{Env: 0, Page: 1, Frame: 6, Write: true})
	})
	checkDone(t, k, loadCall(1, 22), 84, func(k *impl.Kernel) { k.Cache = append(k.Cache[1:], impl.Cached{Env: 1, Page: 5, Frame: 8}) })
	checkDone(t, withCache(k), loadCall(2, 31), 0, func(k *impl.Kernel) { k.Cache = []impl.Cached{{Env: 2, Page: 7, Frame: 7, Write: true}} })
	checkDone(t, k, storeCall(0, 3, 0), 0, func(k *impl.Kernel) { k.Memory[5][3] = 0 })
	checkDone(t, k, storeCall(1, 28, 9999), 0, func(k *impl.Kernel) { k.Memory[7][0] = 9999 })
	checkDone(t, k, storeCall(2, 26, 1), 0, func(k *impl.Kernel) {
		k.Memory[8][2], k.Cache = 1, append(k.Cache[1:], impl.Cached{Env: 2, Page: 6, Frame: 8, Write: true})
	})
	checkDone(t, withCache(k), storeCall(0, 6, 7), 0, func(k *impl.Kernel) {
		k.Memory[6][2], k.Cache = 7, []impl.Cached{{Env: 0, Page: 1, Frame: 6, Write: true}}
	})
}

// shapeCalls are calls of each kind of an environment, about each frame, each table and its words, each environment, and each page.
func shapeCalls(env int) []impl.Call {
	all := []impl.Call{takeCall(env, ""), takeCall(env, "a"), takeCall(env, "cccc"), takeCall(env, "d"), rootCall(env, -1)}
	for frame := range 12 {
		all = append(all, giveCall(env, frame), pokeCall(env, frame, frame%4, 9999), pokeCall(env, frame, (frame+1)%4, 0))
		all = append(all, pinCall(env, frame, 2), pinCall(env, frame, 3), unpinCall(env, frame), rootCall(env, frame))
	}
	for _, table := range []int{0, 1, 2, 3, 8, 9} {
		for at := range 4 {
			for _, word := range []int{0, 9, 15, 17, 19, 23, 25, 31, 35} {
				all = append(all, setCall(env, table, at, word))
			}
		}
	}
	for to := range 3 {
		for _, s := range []string{"", "a", "abc"} {
			all = append(all, grantCall(env, to, s), revokeCall(env, to, s))
		}
	}
	for number := range 16 {
		all = append(all, loadCall(env, 4*number+number%4), storeCall(env, 4*number+(number+env)%4, 1000+number))
	}
	return all
}

// P72 to P92: calls of each kind, done by each environment, without upper tables, with one, two, and the same one of two environments and of all; with tables of all kinds, and any number of translations.
func TestCallsOfEachKind(t *testing.T) {
	done := [5][3][12]int{}
	for env := range 3 {
		for shape, kernels := range shapesOf(env) {
			for i, start := range kernels {
				for j, k := range cachesOf(start) {
					caller := (env + i + j) % 3
					for _, c := range shapeCalls(caller) {
						if _, code := callNow(t, k, c); code == 0 {
							done[shape][caller][c.Kind]++
						}
					}
				}
			}
		}
	}
	for shape, name := range rootShapes {
		for env := range 3 {
			for kind := 1; kind <= 11; kind++ {
				if done[shape][env][kind] == 0 && (shape > 0 || kind < 10) {
					t.Errorf("with %s, no call of kind %d is done by %d", name, kind, env)
				}
			}
		}
	}
}

// P72 to P92: calls of all kinds, of which many are likely to be done, in all valid kernels.
func TestManyCalls(t *testing.T) {
	codes := [12][6]int{}
	for number, k := range validKernels() {
		next := series(number)
		if number%2 == 0 {
			k = withGoodWords(k, next)
		}
		for range 150 {
			c := anyCall(k, next)
			_, code := callNow(t, k, c)
			codes[c.Kind][code]++
		}
	}
	for kind := 1; kind <= 11; kind++ {
		if codes[kind][0] < 200 {
			t.Errorf("of kind %d, the codes are %v", kind, codes[kind])
		}
	}
	for kind, code := range map[int]int{1: 4, 2: 2, 3: 1, 4: 2, 5: 2, 6: 1, 7: 1, 8: 1, 9: 2, 10: 3, 11: 1} {
		if codes[kind][code] < 20 || codes[kind][3] < 20 {
			t.Errorf("of kind %d, the codes are %v", kind, codes[kind])
		}
	}
}

// P72: calls one after the other, also refused ones, from new kernels and from others, all of which lead from one valid kernel to another one.
func TestSequencesOfCalls(t *testing.T) {
	done := [12]int{}
	for number := range 120 {
		next := series(number)
		k := generatedKernel(number)
		if number%2 == 0 {
			k = newOf(t, [][]string{{"a", "b"}, {"", "c"}, writtenRights()[number/2%21]})
		}
		for range 150 {
			c := anyCall(k, next)
			after, code := callNow(t, k, c)
			if code == 0 {
				done[c.Kind]++
			}
			k = after
		}
	}
	for kind := 1; kind <= 11; kind++ {
		if done[kind] < 100 {
			t.Errorf("the calls that are done are, by their kinds, %v", done)
		}
	}
}
