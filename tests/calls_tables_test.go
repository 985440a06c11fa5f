package tests

import (
	"slices"
	"testing"

	"loop.example/exopager/impl"
)

// settingKernel has the upper tables 0 and 1 and the lower tables 2 and 3, of which the upper table 0 names both, and 1 only the table 3; and the lower table 4, which nobody
// reaches. Frames 5 and 6 have data, and all of these are under the right a. Frame 7 has data under b; the lower table 8, under c, and 9, under a, name it. Environments
// of the set have the upper table 0, the others another one or none; all have the right a, and translations, as far as there are.
func settingKernel(set int, other int) impl.Kernel {
	k := emptyKernel()
	for frame, kind := range []int{3, 3, 2, 2, 2, 1, 1, 1, 2, 2} {
		k.Infos[frame] = info(kind, "a", 0)
		k.Memory[frame] = []int{0, 0, 0, 0}
	}
	k.Infos[7].Guard, k.Infos[8].Guard = "b", "c"
	k.Memory[0], k.Memory[1] = []int{11, 0, 13, 0}, []int{0, 15, 0, 0}
	k.Memory[2], k.Memory[3] = []int{23, 0, 0, 21}, []int{0, 25, 27, 0}
	k.Memory[8], k.Memory[9] = []int{0, 31, 0, 0}, []int{29, 0, 0, 23}
	for env := range 3 {
		k.Envs[env] = impl.Env{Rights: []string{"a"}, Root: other}
		if numberHas(set, env) {
			k.Envs[env].Root = 0
		}
	}
	k = recounted(k)
	for env := range 3 {
		if pages := currentOf(k, env); len(pages) > 0 {
			k.Cache = append(k.Cache, pages[len(pages)-1])
		}
	}
	return k
}

// reachingSet is the set of the environments of settingKernel that can reach a table.
func reachingSet(set int, other int, table int) int {
	others := 0
	if other == 1 {
		others = 7 - set
	}
	return []int{set, others, set, set + others, 0, 0, 0, 0, 0, 0}[table]
}

// withoutSet are the translations without those of some environments.
func withoutSet(c []impl.Cached, set int) []impl.Cached {
	return slices.DeleteFunc(slices.Clone(c), func(x impl.Cached) bool { return numberHas(set, x.Env) })
}

// P83: an entry of a table that nobody reaches, one environment, two, or all; exactly the translations of these are forgotten, also if the word remains as it was.
func TestSetsForgetTranslations(t *testing.T) {
	forgotten := [4]int{}
	for set := range 8 {
		for _, other := range []int{-1, 1} {
			k := allAllowed(settingKernel(set, other))
			for table := range 5 {
				reaching := reachingSet(set, other, table)
				for at := range 4 {
					another := [][]int{{17, 37}, {19, 39}, {21, 25}, {23, 31}, {29, 27}}[table][at%2]
					for _, word := range []int{0, k.Memory[table][at], another} {
						want := recounted(changedKernel(k, func(k *impl.Kernel) {
							k.Memory[table][at] = word
							k.Cache = withoutSet(k.Cache, reaching)
						}))
						checkDone(t, k, setCall((at+word)%3, table, at, word), 0, func(k *impl.Kernel) { *k = want })
						forgotten[len(k.Cache)-len(want.Cache)]++
					}
				}
			}
		}
	}
	if slices.Contains(forgotten[:], 0) {
		t.Errorf("of no, one, two and three translations, %v times so many are forgotten", forgotten)
	}
}

// P84: the right for a frame that an entry names: the environment must have it, and each one that can reach the table, but no other one.
func TestSetsUnderRights(t *testing.T) {
	for n := range 8 * 8 * 2 {
		set, having, other := n%8, n/8%8, []int{-1, 1}[n/64]
		k := settingKernel(set, other)
		for env := range 3 {
			if numberHas(having, env) {
				k = withRights(k, env, "a", "b")
			}
		}
		for env := range 3 {
			for table := 2; table <= 4; table++ {
				must := reachingSet(set, other, table) | 1<<env
				code := 1
				if must&^having == 0 {
					code = 0
				}
				checkCode(t, k, setCall(env, table, n%4, 31), code)
				checkCode(t, k, setCall(env, table, (n+1)%4, 29), code)
				checkCode(t, k, setCall(env, table, n%4, 27), 0)
				checkCode(t, k, setCall(env, table, n%4, 0), 0)
			}
		}
	}
}

// P84: the rights for a lower table that an entry names, and for what this names: the environment must have the first one, and each one that can reach the upper table all of them.
func TestSetsOfUpperTablesUnderRights(t *testing.T) {
	for n := range 8 * 8 * 8 * 2 {
		set, second, third, other := n%8, n/8%8, n/64%8, []int{-1, 1}[n/512]
		k := settingKernel(set, other)
		for env := range 3 {
			rights := []string{"a"}
			if numberHas(second, env) {
				rights = append(rights, "b")
			}
			if numberHas(third, env) {
				rights = append(rights, "c")
			}
			k = withRights(k, env, rights...)
		}
		for env := range 3 {
			for table := range 2 {
				reaching := reachingSet(set, other, table)
				codes := []int{1, 1}
				if reaching&^second == 0 {
					codes[0] = 0
				}
				if reaching&^second == 0 && (reaching|1<<env)&^third == 0 {
					codes[1] = 0
				}
				checkCode(t, k, setCall(env, table, n%4, 37+n/4%2*2), codes[0])
				checkCode(t, k, setCall(env, table, n%4, 33+n/8%2*2), codes[1])
			}
		}
	}
}

// P83, P84: the words of a lower table that an entry names are what is reached, and not those of data; a right that includes another one is enough.
func TestSetsOfFramesWithEntriesAsWords(t *testing.T) {
	k := withTables(settingKernel(7, -1), 5, []int{29, 31, 33, 35}, []int{31, 29, 39, 35})
	for env := range 3 {
		for at := range 4 {
			checkCode(t, k, setCall(env, 2, at, 23), 0)
			checkCode(t, k, setCall(env, 3, at, 25), 0)
		}
		checkRefused(t, k, setCall(env, 0, 1, 39), 1)
		checkRefused(t, k, setCall(env, 0, 1, 35), 1)
		all := allAllowed(k)
		checkCode(t, all, setCall(env, 0, 1, 39), 0)
		checkCode(t, all, setCall(env, 0, 1, 35), 0)
		checkRefused(t, withRights(all, env, "a", "bb"), setCall((env+1)%3, 0, 1, 39), 1)
		checkCode(t, withRights(all, env, "a", "b"), setCall((env+1)%3, 0, 1, 39), 0)
	}
}

// P83, P84: each frame as a table, each place, and each word at the edges and around the entries, by each environment, in kernels of all kinds.
func TestSetsOfAllWords(t *testing.T) {
	words := []int{-3, -2, -1}
	for word := range 56 {
		words = append(words, word)
	}
	words = append(words, 9996, 9997, 9998, 9999, 10000, 10001, 1<<32+5, 1<<32, -1<<32+5)
	done, kernels := 0, []impl.Kernel{writtenKernel(), settingKernel(3, 1), allAllowed(settingKernel(5, -1)), tablesKernel(), orderKernel()}
	for number := range 5 {
		kernels = append(kernels, generatedKernel(number*7))
	}
	for i, k := range kernels {
		for table := -1; table <= 12; table++ {
			for at := -1; at <= 4; at++ {
				for j, word := range words {
					_, code := callNow(t, k, setCall((i+j+at+1)%3, table, at, word))
					if code == 0 {
						done++
					}
				}
			}
		}
	}
	if done < 500 {
		t.Errorf("only %d calls are done", done)
	}
}

// P83: entries that are written out: the same frame as before, to be read and to be written, another one, and none; and the table itself, which has another kind than it needs.
func TestWrittenSets(t *testing.T) {
	k := withCache(settingKernel(1, -1))
	refs := func(k *impl.Kernel, frame int, refs int) { k.Infos[frame].Refs = refs }
	checkDone(t, k, setCall(0, 2, 0, 23), 0, func(k *impl.Kernel) {})
	checkDone(t, k, setCall(1, 2, 0, 21), 0, func(k *impl.Kernel) { k.Memory[2][0] = 21 })
	checkDone(t, k, setCall(2, 2, 3, 23), 0, func(k *impl.Kernel) { k.Memory[2][3] = 23 })
	checkDone(t, k, setCall(0, 2, 3, 27), 0, func(k *impl.Kernel) { k.Memory[2][3] = 27; refs(k, 5, 2); refs(k, 6, 3) })
	checkDone(t, k, setCall(0, 2, 1, 21), 0, func(k *impl.Kernel) { k.Memory[2][1] = 21; refs(k, 5, 4) })
	checkDone(t, k, setCall(0, 2, 0, 0), 0, func(k *impl.Kernel) { k.Memory[2][0] = 0; refs(k, 5, 2) })
	checkDone(t, k, setCall(0, 2, 1, 0), 0, func(k *impl.Kernel) {})
	checkDone(t, k, setCall(0, 0, 0, 0), 0, func(k *impl.Kernel) { k.Memory[0][0] = 0; refs(k, 2, 0) })
	checkDone(t, k, setCall(0, 0, 3, 17), 0, func(k *impl.Kernel) { k.Memory[0][3] = 17; refs(k, 4, 1) })
	checkDone(t, k, setCall(0, 0, 2, 11), 0, func(k *impl.Kernel) { k.Memory[0][2] = 11; refs(k, 2, 2); refs(k, 3, 1) })
	for env := range 3 {
		for at := range 4 {
			checkRefused(t, k, setCall(env, 0, at, 1), 3)
			checkRefused(t, k, setCall(env, 0, at, 3), 3)
			checkRefused(t, k, setCall(env, 2, at, 9), 3)
			checkRefused(t, k, setCall(env, 2, at, 11), 3)
			checkRefused(t, k, setCall(env, 2, at, 45), 3)
		}
	}
}

// P83: what an environment sees after a call: a word of another frame, at once, and also where a translation was in the cache before; or nothing.
func TestSetsAreSeen(t *testing.T) {
	for env := range 3 {
		k := settingKernel(7, -1)
		k.Memory[5], k.Memory[6] = []int{50, 51, 52, 53}, []int{60, 61, 62, 63}
		k, _ = callNow(t, k, loadCall(env, 13))
		checkSees(t, k, env, 13, 51)
		after, _ := callNow(t, k, setCall((env+1)%3, 2, 3, 27))
		checkDone(t, after, loadCall(env, 13), 61, func(k *impl.Kernel) { k.Cache = []impl.Cached{{Env: env, Page: 3, Frame: 6, Write: true}} })
		checkDone(t, after, storeCall(env, 13, 7), 0, func(k *impl.Kernel) {
			k.Memory[6][1], k.Cache = 7, []impl.Cached{{Env: env, Page: 3, Frame: 6, Write: true}}
		})
		after, _ = callNow(t, k, setCall(env, 0, 0, 0))
		checkRefused(t, after, loadCall(env, 13), 3)
		checkNotSeen(t, after, env, 13)
		after, _ = callNow(t, k, setCall(env, 2, 3, 0))
		checkRefused(t, after, loadCall((env+2)%3, 13), 3)
		checkRefused(t, after, storeCall(env, 13, 7), 3)
		after, _ = callNow(t, k, setCall(env, 2, 0, 21))
		checkRefused(t, after, storeCall(env, 1, 7), 1)
	}
}

// rootingKernel has the upper tables 0, 1 and 7, of which the last one is under the right b, names the lower table 8 under c, and reaches frame 9 under bc. All environments
// have all rights, some upper tables, and translations.
func rootingKernel(roots ...int) impl.Kernel {
	k := withTables(treeKernel(), 0, []int{9, 0, 15, 0}, []int{0, 15, 0, 0}, []int{19, 21, 0, 0}, []int{0, 23, 25, 0})
	k.Infos[7], k.Infos[8], k.Infos[9] = info(3, "b", 0), info(2, "c", 0), info(1, "bc", 0)
	k.Memory[7], k.Memory[8] = []int{0, 0, 35, 0}, []int{37, 0, 0, 39}
	for env, root := range roots {
		k.Envs[env].Root = root
	}
	k = recounted(k)
	for env := range roots {
		if pages := currentOf(k, 2-env); len(pages) > 0 {
			k.Cache = append(k.Cache, pages[0])
		}
	}
	return k
}

// P85: from each upper table or none to each one or none: the same one again, one that others have, and one that nobody has. The translations of the environment are forgotten, and no others.
func TestRootsFromEachToEach(t *testing.T) {
	roots := []int{-1, 0, 1, 7}
	for n := range 4 * 4 * 4 {
		k := rootingKernel(roots[n%4], roots[n/4%4], roots[n/16])
		for env := range 3 {
			for _, to := range roots {
				want := changedKernel(k, func(k *impl.Kernel) {
					k.Envs[env].Root = to
					k.Cache = withoutSet(k.Cache, 1<<env)
					for frame := range k.Infos {
						if frame == to {
							k.Infos[frame].Refs++
						}
					}
				})
				if from := k.Envs[env].Root; from != -1 {
					want.Infos[from].Refs--
				}
				checkDone(t, k, rootCall(env, to), 0, func(k *impl.Kernel) { *k = want })
			}
			for frame, x := range k.Infos {
				if x.Kind != 3 {
					checkRefused(t, k, rootCall(env, frame), 3)
				}
			}
			checkRefused(t, k, rootCall(env, 12), 3)
			checkRefused(t, k, rootCall(env, -2), 3)
		}
	}
}

// P85: numbers that are no frames, far away.
func TestRootsOfNoFrame(t *testing.T) {
	k := rootingKernel(0, 1, 7)
	for i, frame := range noneOf(12) {
		if frame != -1 {
			checkRefused(t, k, rootCall(i%3, frame), 3)
		}
	}
}

// P85: the rights for the upper table, its lower table and the frame that is reached, each of them missing alone; those of other environments make no difference.
func TestRootsUnderRights(t *testing.T) {
	for env := range 3 {
		k := withRights(rootingKernel(-1, -1, -1), env, "b", "c")
		checkCode(t, k, rootCall(env, 7), 0)
		checkCode(t, withRights(k, env, "b", "c", "ca"), rootCall(env, 7), 0)
		checkCode(t, withRights(k, env, ""), rootCall(env, 7), 0)
		for _, rights := range [][]string{{"b"}, {"c"}, {"bb", "bc", "c"}, {"b", "ca"}, {"a", "b"}, {"a", "c"}, {"ba", "c"}, nil} {
			checkRefused(t, withRights(k, env, rights...), rootCall(env, 7), 1)
			other := withRights(withRoot(k, (env+1)%3, 7), env, rights...)
			checkRefused(t, other, rootCall(env, 7), 1)
			checkCode(t, other, rootCall((env+2)%3, 7), 0)
			checkCode(t, other, rootCall(env, -1), 0)
		}
		under := changedKernel(k, func(k *impl.Kernel) { k.Infos[9].Guard = "a" })
		checkRefused(t, under, rootCall(env, 7), 1)
		checkCode(t, withRights(under, env, "a", "b", "c"), rootCall(env, 7), 0)
		checkCode(t, withKernelWord(withKernelWord(under, 8, 0, 0), 8, 3, 0), rootCall(env, 7), 0)
	}
}

// P85: each frame of all kernels as an upper table, by each environment.
func TestRootsOfManyKernels(t *testing.T) {
	done := 0
	for _, k := range validKernels() {
		for env := range 3 {
			for frame := -1; frame < 12; frame++ {
				if frame >= 0 && k.Infos[frame].Kind != 3 {
					continue
				}
				if _, code := callNow(t, k, rootCall(env, frame)); code == 0 && frame >= 0 {
					done++
				}
			}
		}
	}
	if done < 300 {
		t.Errorf("only %d calls are done", done)
	}
}

// P85: an environment that has another upper table sees what this leads to, and nothing without one.
func TestRootsAreSeen(t *testing.T) {
	k := rootingKernel(0, 0, 0)
	for env := range 3 {
		k, _ = callNow(t, k, loadCall(env, 1))
		after, _ := callNow(t, k, rootCall(env, 7))
		checkSees(t, after, env, 32, 0)
		checkNotSeen(t, after, env, 1)
		checkSees(t, after, (env+1)%3, 1, 401)
		checkCode(t, after, loadCall(env, 1), 3)
		checkCode(t, after, loadCall(env, 44), 0)
		after, _ = callNow(t, after, rootCall(env, -1))
		checkRefused(t, after, loadCall(env, 32), 3)
		checkRefused(t, after, storeCall(env, 44, 1), 3)
		after, _ = callNow(t, after, rootCall(env, 0))
		checkCode(t, after, loadCall(env, 1), 0)
	}
}
