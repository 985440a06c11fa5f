package tests

import (
	"slices"
	"testing"

	"loop.example/exopager/impl"
)

// agingKernel has the upper tables 0 and 1, of which the first one is that of an environment, and 2, which is that of both others; the lower tables 3, 4 and 5; data in
// the frames 6, 7 and 8; and free frames. A page of the environment leads over the frames 0 and 3 to frame 6, and may be written.
func agingKernel(env int, number int) impl.Kernel {
	k := allAllowed(emptyKernel())
	for frame, kind := range []int{3, 3, 3, 2, 2, 2, 1, 1, 1} {
		k.Infos[frame] = info(kind, []string{"b", "", "acca"}[frame%3], 0)
	}
	top, low := number/4, number%4
	k.Memory[0][top], k.Memory[0][(top+1)%4] = 15, 19
	k.Memory[1][(top+2)%4] = 17
	k.Memory[2] = []int{23, 0, 21, 0}
	k.Memory[3][low], k.Memory[3][(low+3)%4] = 27, 31
	k.Memory[4][low] = 31
	k.Memory[5] = []int{27, 33, 0, 31}
	k.Memory[6], k.Memory[7], k.Memory[8] = []int{61, 62, 63, 64}, []int{71, 72, 73, 74}, []int{81, 82, 83, 84}
	return withRoot(withRoot(withRoot(k, env, 0), (env+1)%3, 2), (env+2)%3, 2)
}

// othersThan are right translations of the other environments of agingKernel.
func othersThan(env int) []impl.Cached {
	one, two := (env+1)%3, (env+2)%3
	return []impl.Cached{{Env: one, Page: 0, Frame: 6, Write: true}, {Env: two, Page: 11, Frame: 7}, {Env: two, Page: 0, Frame: 6, Write: true}, {Env: one, Page: 9, Frame: 8}}
}

// aged is a kernel, and what has become of it; and whether the translation of the page is still the same.
type aged struct {
	name   string
	before impl.Kernel
	after  impl.Kernel
	same   bool
}

// agedTables are agingKernels whose tables change: entries go, name another frame, and may be written no more, or may be written at last.
func agedTables(env int, number int) []aged {
	top, low := number/4, number%4
	start := agingKernel(env, number)
	upper := func(k impl.Kernel, word int) impl.Kernel { return withKernelWord(k, 0, top, word) }
	lower := func(k impl.Kernel, word int) impl.Kernel { return withKernelWord(k, 3, low, word) }
	other := func(k impl.Kernel, word int) impl.Kernel { return withKernelWord(k, 4, low, word) }
	return []aged{
		{"no entry in the upper table", start, upper(start, 0), false},
		{"no entry in the lower table", start, lower(start, 0), false},
		{"no entry in both tables", start, lower(upper(start, 0), 0), false},
		{"another frame", start, lower(start, 31), false},
		{"another lower table", start, upper(start, 19), false},
		{"another lower table, without an entry", start, other(upper(start, 19), 0), false},
		{"another lower table, with the same entry", start, other(upper(start, 19), 27), true},
		{"only to be read at the upper table", start, upper(start, 13), false},
		{"only to be read at the lower table", start, lower(start, 25), false},
		{"only to be read at both tables", start, lower(upper(start, 13), 25), false},
		{"to be written at the upper table", upper(start, 13), start, false},
		{"to be written at the lower table", lower(start, 25), start, false},
		{"to be written at both tables", lower(upper(start, 13), 25), start, false},
		{"to be written at the upper table alone", lower(upper(start, 13), 25), lower(start, 25), true},
		{"to be written at the lower table alone", lower(upper(start, 13), 25), upper(start, 13), true},
		{"to be read at the other table", upper(start, 13), lower(start, 25), true},
		{"another frame, to be read", lower(start, 25), lower(start, 29), false},
		{"another frame at the next word", start, withKernelWord(start, 3, (low+1)%4, 33), true},
		{"no entry at the next words", start, withKernelWord(withKernelWord(start, 0, (top+1)%4, 0), 3, (low+3)%4, 0), true},
	}
}

// agedRoots are agingKernels in which the environment, or another one, gets another upper table, or none.
func agedRoots(env int, number int) []aged {
	top := number / 4
	start := agingKernel(env, number)
	second := func(word int) impl.Kernel { return withRoot(withKernelWord(start, 1, top, word), env, 1) }
	return []aged{
		{"no upper table", start, withRoot(start, env, -1), false},
		{"another upper table, to another frame", start, second(19), false},
		{"another upper table, without an entry", start, second(0), false},
		{"another upper table, to a table without an entry", start, withKernelWord(second(19), 4, number%4, 0), false},
		{"another upper table, only to be read", start, second(13), false},
		{"another upper table, with the same entry", start, second(15), true},
		{"another upper table, to be written", second(13), start, false},
		{"the other environments without upper tables", start, withRoot(withRoot(start, (env+1)%3, -1), (env+2)%3, -1), true},
		{"all environments with the upper table", start, withRoot(withRoot(start, (env+1)%3, 0), (env+2)%3, 0), true},
	}
}

// translated is what the tables tell of a page that is in a frame.
func translated(t *testing.T, k impl.Kernel, env int, number int) impl.Cached {
	t.Helper()
	p := pageIn(k, env, number)
	if p.code != 0 {
		t.Fatalf("in %s, there is no page %d of %d", short(k), number, env)
	}
	return impl.Cached{Env: env, Page: number, Frame: p.frame, Write: p.write}
}

// checkAged puts the translation to each place among those that are right before and after the change. Without it, the kernel is valid, and without all of them, too.
func checkAged(t *testing.T, x aged, env int, number int) {
	t.Helper()
	old := translated(t, x.before, env, number)
	checkKernel(t, x.before, true)
	checkKernel(t, x.after, true)
	kept := slices.DeleteFunc(othersThan(env), func(y impl.Cached) bool { return !isCurrent(x.before, y) || !isCurrent(x.after, y) })
	for many := range min(len(kept), 3) + 1 {
		checkKernel(t, withCache(x.after, kept[:many]...), true)
		for at := range many + 1 {
			c := slices.Insert(slices.Clone(kept[:many]), at, old)
			checkKernel(t, withCache(x.before, c...), true)
			checkKernel(t, withCache(x.after, c...), x.same)
		}
	}
	if !x.same {
		checkNoKernel(t, x.name, withCache(x.after, old))
		checkKernel(t, withCache(x.after, old, old), false)
		return
	}
	checkSpaces(t, withCache(x.after, old))
}

// P67, P68: each page of each environment, for each change, wherever the translation is in the cache.
func TestOldTranslations(t *testing.T) {
	for env := range 3 {
		for number := range 16 {
			for i, x := range append(agedTables(env, number), agedRoots(env, number)...) {
				checkAged(t, x, env, number)
				if t.Failed() {
					t.Fatalf("with %s, page %d of %d, change %d", x.name, number, env, i)
				}
			}
		}
	}
}

// P67: the translations of the tests above, written out, for page 6 of environment 1.
func TestWrittenOldTranslations(t *testing.T) {
	k := agingKernel(1, 6)
	write, read := impl.Cached{Env: 1, Page: 6, Frame: 6, Write: true}, impl.Cached{Env: 1, Page: 6, Frame: 6}
	other := impl.Cached{Env: 1, Page: 6, Frame: 7, Write: true}
	check := func(k impl.Kernel, x impl.Cached, want bool) {
		t.Helper()
		checkKernel(t, k, true)
		checkKernel(t, withCache(k, x), want)
		checkKernel(t, withCache(k, impl.Cached{Env: 0, Page: 11, Frame: 7}, x, impl.Cached{Env: 2, Page: 9, Frame: 8}), want)
	}
	check(k, write, true)
	check(k, read, false)
	check(k, other, false)
	check(k, impl.Cached{Env: 1, Page: 5, Frame: 6, Write: true}, false)
	check(k, impl.Cached{Env: 1, Page: 5, Frame: 7, Write: true}, true)
	check(k, impl.Cached{Env: 1, Page: 9, Frame: 6, Write: true}, false)
	check(k, impl.Cached{Env: 0, Page: 6, Frame: 6, Write: true}, false)
	check(withKernelWord(k, 0, 1, 13), read, true)
	check(withKernelWord(k, 0, 1, 13), write, false)
	check(withKernelWord(k, 3, 2, 25), read, true)
	check(withKernelWord(k, 3, 2, 25), write, false)
	check(withKernelWord(k, 3, 2, 31), other, true)
	check(withKernelWord(k, 3, 2, 31), write, false)
	check(withKernelWord(k, 3, 2, 0), write, false)
	check(withKernelWord(k, 0, 1, 19), other, true)
	check(withKernelWord(k, 0, 1, 19), write, false)
	check(withKernelWord(k, 0, 1, 0), write, false)
	check(withRoot(k, 1, 1), write, false)
	check(withRoot(k, 1, 2), write, false)
	check(withRoot(k, 1, -1), write, false)
}

// P67: for each state of the tables that lead to a page, all translations of this page: just the one that the tables tell is right, if there is one.
func TestTranslationsOfAllTables(t *testing.T) {
	right := 0
	for i := range 48 {
		env, number := i%3, i/3
		start := withKernelWord(withKernelWord(agingKernel(env, number), 1, number/4, 13), 4, number%4, 29)
		for _, upper := range []int{0, 13, 15, 17, 19} {
			for _, lower := range []int{0, 25, 27, 29, 31} {
				k := withKernelWord(withKernelWord(start, 0, number/4, upper), 3, number%4, lower)
				for root := -1; root <= 1; root++ {
					right += checkTranslations(t, turnedKernel(withRoot(k, env, root), i%12), env, number)
				}
			}
		}
	}
	if right < 1000 {
		t.Errorf("only %d translations are right", right)
	}
}

// checkTranslations tries all translations of a page, alone, and returns how many are right.
func checkTranslations(t *testing.T, k impl.Kernel, env int, number int) int {
	t.Helper()
	right := 0
	for frame := range 12 {
		for _, write := range []bool{false, true} {
			x := impl.Cached{Env: env, Page: number, Frame: frame, Write: write}
			k.Cache = []impl.Cached{x}
			checkKernel(t, k, isCurrent(k, x))
			if isCurrent(k, x) {
				right++
			}
		}
	}
	return right
}

// P67: all translations that there are, for kernels that are written out and generated, alone, and as the last one behind others that are right.
func TestAllTranslations(t *testing.T) {
	for i, k := range validKernels()[:60] {
		all := allCurrent(k)
		for env := range 3 {
			for number := range 16 {
				checkTranslations(t, kernelCopy(k), env, number)
				if many := min(3, len(all)); i < 13 {
					x := impl.Cached{Env: env, Page: number, Frame: (i + number) % 12, Write: number%2 == 0}
					others := slices.DeleteFunc(slices.Clone(all[len(all)-many:]), func(y impl.Cached) bool { return y.Env == env && y.Page == number })
					checkKernel(t, withCache(k, append(others, x)...), isCurrent(k, x))
				}
			}
		}
	}
}

// P67: a page that has no place, for each reason, is not in frame 0, which the zero value of a place names.
func TestTranslationsToFrameZero(t *testing.T) {
	for env := range 3 {
		for number := range 16 {
			x := impl.Cached{Env: env, Page: number}
			start := withKernelWord(agingKernel(env, number), 3, number%4, 25)
			noTop, noLow := withKernelWord(start, 0, number/4, 0), withKernelWord(start, 3, number%4, 0)
			for i, k := range []impl.Kernel{start, noTop, noLow, withRoot(start, env, -1), withRoot(start, env, 1)} {
				k = turnedKernel(k, 6)
				checkKernel(t, k, true)
				checkKernel(t, withCache(k, x), i == 0)
				checkKernel(t, withCache(k, impl.Cached{Env: (env + 1) % 3, Page: 9, Frame: 2}, x), i == 0)
			}
		}
	}
	checkNoKernel(t, "a translation of nothing", withCache(emptyKernel(), impl.Cached{}))
}

// P67: a translation that is right for one environment is not for one that has another upper table, or none; and it is for one that has the same.
func TestTranslationsOfOtherEnvironments(t *testing.T) {
	for _, k := range validKernels() {
		for _, x := range allCurrent(k) {
			for env := range 3 {
				y := x
				y.Env = env
				checkKernel(t, withCache(k, x), true)
				checkKernel(t, withCache(k, y), k.Envs[env].Root == k.Envs[x.Env].Root || isCurrent(k, y))
			}
		}
	}
}

// P67, P68: right translations in any order, as many as there may be, of the kernel that is written out.
func TestRightTranslationsInAnyOrder(t *testing.T) {
	k := withCache(writtenKernel())
	all := allCurrent(k)
	if len(all) != 18 {
		t.Fatalf("the translations are %v", all)
	}
	for i := range all {
		for j := range all {
			for l := range all {
				if i == j || i == l || j == l {
					continue
				}
				k.Cache = []impl.Cached{all[i], all[j], all[l]}
				checkKernel(t, k, true)
				if last := (i*7 + j*5 + l*3) % 18; last != i && last != j && last != l {
					k.Cache = append(k.Cache, all[last])
					checkKernel(t, k, true)
				}
			}
		}
	}
}

// P68: valid kernels without any one translation, and without all of them.
func TestKernelsWithoutTranslations(t *testing.T) {
	many := [5]int{}
	for i, k := range validKernels() {
		all := allCurrent(k)
		for _, c := range [][]impl.Cached{k.Cache, all[:min(4, len(all))], all[max(0, len(all)-4):], all[min(i%5, len(all)):min(i%5+4, len(all))]} {
			x := withCache(k, c...)
			checkKernel(t, x, true)
			for at := range c {
				checkKernel(t, withCache(k, slices.Delete(slices.Clone(c), at, at+1)...), true)
			}
			many[len(c)]++
		}
		checkKernel(t, withCache(k), true)
		checkSpaces(t, withCache(k, []impl.Cached{}...))
	}
	if many[4] < 100 || many[0] < 10 {
		t.Errorf("there are caches of the lengths %v", many)
	}
}

// P67, P70: translations are no short cut: with them and without them, the same is reached and seen.
func TestTranslationsMakeNoDifference(t *testing.T) {
	for _, k := range validKernels()[:150] {
		for env := range 3 {
			without := withCache(k)
			checkReach(t, k, env, impl.KernelReach(without, env)...)
			for address := range 64 {
				word, ok := impl.KernelSees(k, env, address)
				if other, fine := impl.KernelSees(without, env, address); word != other || ok != fine {
					t.Errorf("in %s, address %d of %d is %d, %t, and without translations %d, %t", short(k), address, env, word, ok, other, fine)
				}
			}
		}
	}
}

// P67: several translations that are old, and some that are right among them.
func TestSeveralOldTranslations(t *testing.T) {
	for number := range 16 {
		start := agingKernel(0, number)
		gone := withRoot(start, 1, -1)
		others := othersThan(0)
		checkKernel(t, withCache(start, others...), true)
		checkKernel(t, withCache(gone, others...), false)
		checkKernel(t, withCache(gone, others[0], others[3]), false)
		checkKernel(t, withCache(gone, others[1], others[2]), true)
		checkKernel(t, withCache(gone, others[1], others[2], others[3]), false)
		checkKernel(t, withCache(withRoot(gone, 2, -1), others[1], others[2]), false)
		checkKernel(t, withCache(withRoot(gone, 2, -1), translated(t, start, 0, number)), true)
	}
}
