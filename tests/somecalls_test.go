package tests

import (
	"slices"
	"testing"

	"loop.example/exopager/impl"
)

// The kinds of calls and their codes are written as numbers here: 0 is done, 1 that a right is missing, 2 busy, 3 bad, 4 full, and 5 invalid.
// What a call of a kind does not use is no frame, place, word, environment or right in the calls below, as it must make no difference.

func takeCall(env int, name string) impl.Call {
	return impl.Call{Kind: 1, Env: env, A: 12, B: -1, C: 10000, Name: name}
}

func giveCall(env int, frame int) impl.Call {
	return impl.Call{Kind: 2, Env: env, A: frame, B: 4, C: -1, Name: "d"}
}

func pokeCall(env int, frame int, at int, word int) impl.Call {
	return impl.Call{Kind: 3, Env: env, A: frame, B: at, C: word, Name: "aaaaa"}
}

func pinCall(env int, frame int, kind int) impl.Call {
	return impl.Call{Kind: 4, Env: env, A: frame, B: kind, C: 10000, Name: "d"}
}

func unpinCall(env int, frame int) impl.Call {
	return impl.Call{Kind: 5, Env: env, A: frame, B: 4, C: -1, Name: "A"}
}

func setCall(env int, table int, at int, word int) impl.Call {
	return impl.Call{Kind: 6, Env: env, A: table, B: at, C: word, Name: "d"}
}

func rootCall(env int, table int) impl.Call {
	return impl.Call{Kind: 7, Env: env, A: table, B: -1, C: -1, Name: "aaaaa"}
}

func grantCall(env int, to int, name string) impl.Call {
	return impl.Call{Kind: 8, Env: env, A: to, B: 4, C: 10000, Name: name}
}

func revokeCall(env int, from int, name string) impl.Call {
	return impl.Call{Kind: 9, Env: env, A: from, B: -1, C: -1, Name: name}
}

func loadCall(env int, address int) impl.Call {
	return impl.Call{Kind: 10, Env: env, A: address, B: -1, C: 10000, Name: "d"}
}

func storeCall(env int, address int, word int) impl.Call {
	return impl.Call{Kind: 11, Env: env, A: address, B: word, C: -1, Name: "d"}
}

// condition is one of those in a row of the table of calls: whether it holds, if all in front of it do, and the code if it does not.
type condition struct {
	code  int
	holds func() bool
}

func within(n int, limit int) bool {
	return n >= 0 && n < limit
}

func isName(s string) bool {
	_, ok := rankOf[s]
	return ok
}

// mayAll tells whether rights include those of all frames.
func mayAll(k impl.Kernel, rights []string, frames []int) bool {
	return !slices.ContainsFunc(frames, func(frame int) bool { return !mayBy(rights, k.Infos[frame].Guard) })
}

// reaches tells whether an environment can reach a frame.
func reaches(k impl.Kernel, env int, frame int) bool {
	return slices.Contains(reachedFrom(k.Memory, k.Envs[env].Root), frame)
}

// rowOf has the conditions of a call, in their order, for a valid kernel and an environment. Another kind has one that never holds.
func rowOf(k impl.Kernel, c impl.Call) []condition {
	rights := k.Envs[c.Env].Rights
	frame := condition{3, func() bool { return within(c.A, 12) && k.Infos[c.A].Kind != 0 }}
	ownFrame := condition{1, func() bool { return mayBy(rights, k.Infos[c.A].Guard) }}
	data := condition{3, func() bool { return k.Infos[c.A].Kind == 1 }}
	name := condition{3, func() bool { return isName(c.Name) }}
	ownName := condition{1, func() bool { return mayBy(rights, c.Name) }}
	switch c.Kind {
	case 1:
		return []condition{name, ownName, {4, func() bool { return slices.Contains(k.Infos, impl.Info{}) }}}
	case 2:
		return []condition{frame, ownFrame, data, {2, func() bool { return k.Infos[c.A].Refs == 0 }}}
	case 3:
		return []condition{frame, ownFrame, data, {3, func() bool { return within(c.B, 4) && within(c.C, 10000) }}}
	case 4:
		pin := func() int { _, code := pinned(k.Memory, k.Infos, c.A, c.B, rights); return code }
		return []condition{frame, {3, func() bool { return c.B == 2 || c.B == 3 }}, ownFrame, {2, func() bool { return pin() != 1 }}, {3, func() bool { return pin() != 2 }}}
	case 5:
		return []condition{frame, ownFrame, {2, func() bool { return k.Infos[c.A].Kind >= 2 && k.Infos[c.A].Refs == 0 }}}
	case 6:
		return append([]condition{frame, ownFrame}, setConditions(k, c)...)
	case 7:
		top := func() bool { return c.A == -1 || within(c.A, 12) && k.Infos[c.A].Kind == 3 }
		return []condition{{3, top}, {1, func() bool { return mayAll(k, rights, reachedFrom(k.Memory, c.A)) }}}
	case 8:
		room := func() bool { return len(addedTo(k.Envs[c.A].Rights, c.Name)) <= 6 }
		return []condition{{3, func() bool { return within(c.A, 3) }}, name, ownName, {4, room}}
	case 9:
		idle := func() bool {
			return mayAll(k, droppedFrom(k.Envs[c.A].Rights, c.Name), reachedFrom(k.Memory, k.Envs[c.A].Root))
		}
		return []condition{{3, func() bool { return within(c.A, 3) && c.A != c.Env }}, name, ownName, {2, idle}}
	case 10, 11:
		return placeConditions(k, c)
	}
	return []condition{{3, func() bool { return false }}}
}

// setConditions are those behind the right for the table.
func setConditions(k impl.Kernel, c impl.Call) []condition {
	fits := func() bool {
		other, _, ok := named(c.C)
		kind := k.Infos[c.A].Kind
		return kind >= 2 && within(c.B, 4) && (c.C == 0 || ok && k.Infos[other].Kind == needed[kind])
	}
	each := func() bool {
		for env, e := range k.Envs {
			if other, _, ok := named(c.C); ok && reaches(k, env, c.A) && !mayAll(k, e.Rights, openedBy(k, other)) {
				return false
			}
		}
		return true
	}
	own := func() bool {
		other, _, ok := named(c.C)
		return !ok || mayBy(k.Envs[c.Env].Rights, k.Infos[other].Guard)
	}
	return []condition{{3, fits}, {1, each}, {1, own}}
}

// openedBy has the frame that a word names, and if this is a table, those that its words name.
func openedBy(k impl.Kernel, frame int) []int {
	list := []int{frame}
	for _, word := range k.Memory[frame] {
		if other, _, ok := named(word); ok && k.Infos[frame].Kind >= 2 {
			list = append(list, other)
		}
	}
	return list
}

func placeConditions(k impl.Kernel, c impl.Call) []condition {
	place := func() page { return pageIn(k, c.Env, c.A/4) }
	row := []condition{{3, func() bool { return within(c.A, 64) && place().code == 0 }}}
	if c.Kind == 11 {
		row = append(row, condition{3, func() bool { return within(c.B, 10000) }}, condition{1, func() bool { return place().write }})
	}
	return row
}

// doneBy is the kernel after a call that is done, and its value. All uses are counted again, as no call may change them otherwise.
func doneBy(k impl.Kernel, c impl.Call) (impl.Kernel, int) {
	next, value := kernelCopy(k), 0
	switch c.Kind {
	case 1:
		value = slices.Index(k.Infos, impl.Info{})
		next.Infos[value], next.Memory[value] = info(1, c.Name, 0), []int{0, 0, 0, 0}
	case 2:
		next.Infos[c.A] = impl.Info{}
	case 3, 6:
		next.Memory[c.A][c.B] = c.C
	case 4:
		next.Infos[c.A].Kind = c.B
	case 5:
		next.Infos[c.A].Kind = 1
	case 7:
		next.Envs[c.Env].Root = c.A
		next.Cache = ofOthers(next.Cache, c.Env)
	case 8:
		next.Envs[c.A].Rights = addedTo(k.Envs[c.A].Rights, c.Name)
	case 9:
		next.Envs[c.A].Rights = droppedFrom(k.Envs[c.A].Rights, c.Name)
	case 10, 11:
		return placeDone(next, c)
	}
	for env := range k.Envs {
		if c.Kind == 6 && reaches(k, env, c.A) {
			next.Cache = ofOthers(next.Cache, env)
		}
	}
	return recounted(next), value
}

func placeDone(next impl.Kernel, c impl.Call) (impl.Kernel, int) {
	p := pageIn(next, c.Env, c.A/4)
	if !hasPage(next.Cache, c.Env, c.A/4) {
		next.Cache = putInto(next.Cache, impl.Cached{Env: c.Env, Page: c.A / 4, Frame: p.frame, Write: p.write})
	}
	if c.Kind == 11 {
		next.Memory[p.frame][c.A%4] = c.B
		return next, 0
	}
	return next, next.Memory[p.frame][c.A%4]
}

// called is what KernelCall returns for a valid kernel and an environment, as the table of calls tells.
func called(k impl.Kernel, c impl.Call) (impl.Kernel, int, int) {
	for _, x := range rowOf(k, c) {
		if !x.holds() {
			return k, 0, x.code
		}
	}
	next, value := doneBy(k, c)
	return next, value, 0
}

// callNow expects what the table of calls tells, and a valid kernel, and returns this and the code.
func callNow(t *testing.T, k impl.Kernel, c impl.Call) (impl.Kernel, int) {
	t.Helper()
	want, value, code := called(k, c)
	got, v, n := impl.KernelCall(k, c)
	if !sameKernel(got, want) || v != value || n != code {
		t.Errorf("KernelCall(%s, %v) is %s, %d, %d, not %s, %d, %d", short(k), c, short(got), v, n, short(want), value, code)
	}
	checkKernel(t, got, true)
	return got, n
}

// checkDone expects that the call is done, with a value, and changes the kernel so, and not otherwise.
func checkDone(t *testing.T, k impl.Kernel, c impl.Call, value int, change func(k *impl.Kernel)) {
	t.Helper()
	want := changedKernel(k, change)
	if got, v, n := impl.KernelCall(k, c); !sameKernel(got, want) || v != value || n != 0 {
		t.Errorf("KernelCall(%s, %v) is %s, %d, %d, not %s, %d, 0", short(k), c, short(got), v, n, short(want), value)
	}
	checkKernel(t, want, true)
}

// checkRefused expects that the call has a code, and changes nothing.
func checkRefused(t *testing.T, k impl.Kernel, c impl.Call, code int) {
	t.Helper()
	if got, v, n := impl.KernelCall(k, c); !sameKernel(got, k) || v != 0 || n != code {
		t.Errorf("KernelCall(%s, %v) is %s, %d, %d, not the kernel, 0, %d", short(k), c, short(got), v, n, code)
	}
	checkKernel(t, k, true)
}

// checkCode expects a code, and otherwise what the table of calls tells.
func checkCode(t *testing.T, k impl.Kernel, c impl.Call, code int) {
	t.Helper()
	if _, n := callNow(t, k, c); n != code {
		t.Errorf("KernelCall(%s, %v) has the code %d, not %d", short(k), c, n, code)
	}
}

func isZeroKernel(k impl.Kernel) bool {
	return len(k.Memory)+len(k.Infos)+len(k.Envs)+len(k.Cache) == 0
}

// checkNoCall expects that the kernel or the environment is invalid.
func checkNoCall(t *testing.T, k impl.Kernel, c impl.Call) {
	t.Helper()
	if got, v, n := impl.KernelCall(k, c); !isZeroKernel(got) || v != 0 || n != 5 {
		t.Errorf("KernelCall(%s, %v) is %s, %d, %d, not invalid", short(k), c, short(got), v, n)
	}
}

func checkPlay(t *testing.T, k impl.Kernel, calls []impl.Call, want impl.Kernel, codes ...int) {
	t.Helper()
	if got, list := impl.KernelPlay(k, calls); !sameKernel(got, want) || !slices.Equal(list, codes) {
		t.Errorf("KernelPlay(%s, %s) is %s, %v, not %s, %v", short(k), short(calls), short(got), list, short(want), codes)
	}
}

// anyWord is a word that is an entry, any other one, or none.
func anyWord(next func(int) int) int {
	return []int{0, 5, 9999, 10000, -1, next(10000), entriesOf[next(24)], entriesOf[next(24)]}[next(8)]
}

// anyCall is a call of an environment, of any kind: three of four are likely to be done, and for the others all arguments are anything.
func anyCall(k impl.Kernel, next func(int) int) impl.Call {
	c := impl.Call{Kind: 1 + next(11), Env: next(3), A: next(14) - 1, B: next(6) - 1, C: anyWord(next), Name: append(guardsOfMany(), "d", "aaaaa")[next(12)]}
	if next(4) == 0 {
		return c
	}
	c.B = next(4)
	switch c.Kind {
	case 2, 3:
		c.A = anyFrame(k, next, func(x impl.Info) bool { return x.Kind == 1 && (c.Kind == 3 || x.Refs == 0) })
	case 4:
		c.A, c.B = anyFrame(k, next, func(x impl.Info) bool { return x.Kind == 1 && x.Refs == 0 }), 2+next(2)
	case 5:
		c.A = anyFrame(k, next, func(x impl.Info) bool { return x.Kind >= 2 && x.Refs == 0 })
	case 6:
		c.A = anyFrame(k, next, func(x impl.Info) bool { return x.Kind >= 2 })
		needs := anyFrame(k, next, func(x impl.Info) bool { return c.A >= 0 && x.Kind == needed[k.Infos[c.A].Kind] })
		c.C = []int{0, entriesOf[max(needs, 0)], entriesOf[12+max(needs, 0)]}[next(3)]
	case 7:
		c.A = anyFrame(k, next, func(x impl.Info) bool { return x.Kind == 3 })
	case 8, 9:
		c.A = next(3)
	case 10, 11:
		c.A, c.B = anyAddress(k, c.Env, next), next(10000)
	}
	return c
}

// anyFrame is one of the frames for which a condition holds, or -1 if there are none.
func anyFrame(k impl.Kernel, next func(int) int, holds func(x impl.Info) bool) int {
	frames := framesWhere(func(frame int) bool { return holds(k.Infos[frame]) })
	if len(frames) == 0 {
		return -1
	}
	return frames[next(len(frames))]
}

// anyAddress is one of those that the environment sees, if there is one.
func anyAddress(k impl.Kernel, env int, next func(int) int) int {
	pages := currentOf(k, env)
	if len(pages) == 0 {
		return next(64)
	}
	return 4*pages[next(len(pages))].Page + next(4)
}

// withGoodWords is the kernel in which frames with data that nothing uses have words that a table may have.
func withGoodWords(k impl.Kernel, next func(int) int) impl.Kernel {
	return changedKernel(k, func(k *impl.Kernel) {
		for frame, x := range k.Infos {
			if x.Kind == 1 && x.Refs == 0 {
				kind := 2 + next(2)
				other := anyFrame(*k, next, func(y impl.Info) bool { return y.Kind == needed[kind] })
				if other != -1 && other != frame {
					k.Memory[frame] = [][]int{{0, 0, 0, 0}, wordsNaming(other), wordsNaming(other, other)}[next(3)]
				}
			}
		}
	})
}

// sequenceOf has so many calls, one after the other, of a kernel, and the kernel in front of each one, as the table of calls tells.
func sequenceOf(k impl.Kernel, many int, next func(int) int) ([]impl.Call, []impl.Kernel) {
	calls, kernels := []impl.Call{}, []impl.Kernel{k}
	for range many {
		c := anyCall(k, next)
		k, _, _ = called(k, c)
		calls, kernels = append(calls, c), append(kernels, k)
	}
	return calls, kernels
}

// rootShapes are the ways in which environments have upper tables.
var rootShapes = []string{"no root", "one root", "two roots", "one root of two", "one root of all"}

// shapesOf are kernels of each of rootShapes, in which an environment has the first upper table, if there is one. The lower tables name no frame, one, several, and one
// several times; pages can be read, or written, too.
func shapesOf(env int) [][]impl.Kernel {
	all := make([][]impl.Kernel, 5)
	for _, low := range [][]int{{0, 0, 0, 0}, {0, 19, 0, 0}, {19, 0, 23, 25}, {23, 21, 0, 23}} {
		k := withTables(treeKernel(), 0, []int{11, 0, 11, 0}, []int{0, 15, 0, 13}, low, []int{17, 0, 0, 27})
		k.Infos[7], k.Infos[8], k.Infos[9] = info(1, "b", 0), info(2, "b", 0), info(3, "b", 0)
		one := withRoot(k, env, 0)
		two := withRoot(one, (env+2)%3, 0)
		for i, x := range []impl.Kernel{k, one, withRoot(one, (env+1)%3, 1), two, withRoot(two, (env+1)%3, 0)} {
			all[i] = append(all[i], x)
		}
	}
	return all
}

// cachesOf are the kernel with no translation, one, several, and as many as there may be.
func cachesOf(k impl.Kernel) []impl.Kernel {
	all := allCurrent(k)
	list := []impl.Kernel{withCache(k)}
	for _, many := range []int{1, 2, 4} {
		if many <= len(all) {
			list = append(list, withCache(k, all[len(all)-many:]...))
		}
	}
	return list
}
