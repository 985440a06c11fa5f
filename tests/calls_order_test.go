package tests

import (
	"strconv"
	"testing"

	"loop.example/exopager/impl"
)

// orderKernel has frames of each kind under the right a, used and not used: the upper tables 0 and 1, the lower tables 2 and 3, and data in the frames 4 and 5. The words of
// the frames 4 and 6 are not those of tables. Frame 7 has data under the right b, and so is the lower table 8. The lower table 9, which nothing uses, names frame 7. The
// frames 10 and 11 are free. Environment 0 has the right a and the upper table 0; environment 1 has b, and environment 2 nothing.
func orderKernel() impl.Kernel {
	k := emptyKernel()
	for frame, kind := range []int{3, 3, 2, 2, 1, 1, 1, 1, 2, 2} {
		k.Infos[frame] = info(kind, "a", 0)
	}
	k.Infos[7].Guard, k.Infos[8].Guard = "b", "b"
	k.Memory[0], k.Memory[2], k.Memory[9] = []int{9, 0, 11, 0}, []int{17, 19, 0, 0}, []int{0, 0, 31, 0}
	k.Memory[4], k.Memory[6] = []int{9999, 2, 49, 0}, []int{0, 0, 0, 4}
	k.Envs[0].Rights, k.Envs[1].Rights = []string{"a"}, []string{"b"}
	k = withRoot(k, 0, 0)
	return withCache(k, impl.Cached{Env: 0, Page: 0, Frame: 4}, impl.Cached{Env: 0, Page: 9, Frame: 4, Write: true})
}

// namedCode is a call whose code is wanted, as the conditions fail that are named.
type namedCode struct {
	name string
	k    impl.Kernel
	call impl.Call
	code int
}

// ordersOfFrames are calls with one argument that is a frame, by environment 0, which has the right for frames under a, by environment 1, which has not, and by environment 2,
// which has all rights: also the empty one, as if it were for a free frame.
func ordersOfFrames() []namedCode {
	k := withRights(orderKernel(), 2, "")
	all := []namedCode{}
	add := func(name string, code int, calls ...impl.Call) {
		for _, c := range calls {
			all = append(all, namedCode{name, k, c, code})
		}
	}
	add("no frame", 3, giveCall(2, -1), giveCall(2, 12), pokeCall(2, -1, 0, 0), pokeCall(2, 12, 3, 0), unpinCall(2, -1), unpinCall(2, 12))
	add("a free frame", 3, giveCall(2, 10), giveCall(2, 11), pokeCall(2, 10, 0, 0), pokeCall(2, 11, 3, 9999), unpinCall(2, 10), unpinCall(2, 11))
	add("a free frame, no right", 3, giveCall(0, 10), giveCall(1, 11), pokeCall(0, 11, 0, 0), pokeCall(1, 10, 3, 0), unpinCall(0, 10), unpinCall(1, 11))
	add("a free frame, no place", 3, pokeCall(2, 10, 4, 0), pokeCall(0, 10, -1, -1))
	add("no right", 1, giveCall(1, 5), giveCall(1, 6), pokeCall(1, 4, 0, 0), pokeCall(1, 5, 3, 0), pokeCall(0, 7, 3, 0), unpinCall(1, 1), unpinCall(1, 3), unpinCall(0, 8))
	add("no data", 3, giveCall(0, 1), giveCall(0, 3), giveCall(2, 8), pokeCall(0, 0, 0, 0), pokeCall(0, 1, 0, 0), pokeCall(0, 2, 3, 0), pokeCall(0, 3, 0, 0))
	add("used", 2, giveCall(0, 4), giveCall(1, 7), unpinCall(0, 0), unpinCall(0, 2))
	add("no right, no data", 1, giveCall(1, 1), giveCall(1, 3), giveCall(0, 8), pokeCall(1, 1, 0, 0), pokeCall(1, 3, 3, 0), pokeCall(0, 8, 0, 0))
	add("no right, used", 1, giveCall(1, 4), giveCall(0, 7), unpinCall(1, 0), unpinCall(1, 2))
	add("no data, used", 3, giveCall(0, 0), giveCall(0, 2))
	add("no right, no data, used", 1, giveCall(1, 0), giveCall(1, 2))
	add("no place", 3, pokeCall(0, 5, -1, 0), pokeCall(0, 5, 4, 9999))
	add("no word", 3, pokeCall(0, 5, 0, -1), pokeCall(0, 5, 3, 10000))
	add("no place, no word", 3, pokeCall(0, 5, -1, -1), pokeCall(0, 5, 4, 10000))
	add("no right, no place", 1, pokeCall(1, 5, -1, 0), pokeCall(0, 7, 4, 0))
	add("no right, no word", 1, pokeCall(1, 5, 0, -1), pokeCall(0, 7, 0, 10000))
	add("no data, no place", 3, pokeCall(0, 3, 4, 0), pokeCall(0, 1, 0, -1))
	add("no table", 2, unpinCall(0, 5), unpinCall(0, 6), unpinCall(1, 7))
	add("no right, no table", 1, unpinCall(1, 5), unpinCall(0, 7))
	add("no table, used", 2, unpinCall(0, 4))
	return all
}

// ordersOfPins are those of CallPin.
func ordersOfPins() []namedCode {
	k := withRights(orderKernel(), 2, "")
	good := withTables(k, 4, []int{0, 0, 0, 0})
	other := withTables(k, 5, []int{0, 0, 0, 31})
	all := []namedCode{}
	add := func(name string, k impl.Kernel, code int, frame int, envs ...int) {
		for _, env := range envs {
			all = append(all, namedCode{name + ", lower", k, pinCall(env, frame, 2), code}, namedCode{name + ", upper", k, pinCall(env, frame, 3), code})
		}
	}
	kinds := func(name string, code int, frame int, env int) {
		for _, kind := range []int{-1, 0, 1, 4} {
			all = append(all, namedCode{name + " " + strconv.Itoa(kind), k, pinCall(env, frame, kind), code})
		}
	}
	add("no frame", k, 3, -1, 0, 1, 2)
	add("no frame", k, 3, 12, 0, 1, 2)
	add("a free frame", k, 3, 10, 2)
	add("a free frame, no right", k, 3, 11, 0, 1)
	kinds("kind", 3, 5, 0)
	kinds("a free frame, kind", 3, 10, 2)
	kinds("no right, kind", 3, 5, 1)
	kinds("used, kind", 3, 2, 0)
	kinds("bad words, kind", 3, 6, 0)
	kinds("no right, used, kind", 3, 4, 1)
	add("no right", k, 1, 5, 1)
	add("no data", k, 2, 3, 0)
	add("no data", k, 2, 1, 0)
	add("used", good, 2, 4, 0)
	add("bad words", k, 3, 6, 0)
	add("words without a right", other, 3, 5, 0)
	add("no right, used", good, 1, 4, 1)
	add("no right, no data", k, 1, 3, 1)
	add("no right, bad words", k, 1, 6, 1)
	add("no right, words without a right", withRights(other, 1, "c"), 1, 5, 1)
	add("used, bad words", k, 2, 4, 0)
	add("no data, bad words", k, 2, 9, 0)
	add("no right, used, bad words", k, 1, 4, 1)
	return all
}

// ordersOfSets are those of CallSet. Frame 7 is under the right b, which environment 0 has not, and so is the lower table 8; the lower table 9 names frame 7.
func ordersOfSets() []namedCode {
	k := withRights(orderKernel(), 2, "")
	both := withRights(k, 1, "a", "b")
	shared := withRoot(withRights(k, 0, "a", "b"), 2, 0)
	shared = withRights(shared, 2, "a")
	all := []namedCode{}
	add := func(name string, k impl.Kernel, code int, calls ...impl.Call) {
		for _, c := range calls {
			all = append(all, namedCode{name, k, c, code})
		}
	}
	add("no frame", k, 3, setCall(2, -1, 0, 0), setCall(2, 12, 0, 0))
	add("a free frame", k, 3, setCall(2, 10, 0, 0))
	add("a free frame, no right", k, 3, setCall(0, 10, 0, 0), setCall(1, 11, 4, 0))
	add("no right", k, 1, setCall(1, 3, 0, 0), setCall(1, 2, 0, 17), setCall(0, 8, 0, 0))
	add("no table", k, 3, setCall(0, 5, 0, 0), setCall(0, 6, 3, 17))
	add("no place", k, 3, setCall(0, 3, -1, 0), setCall(0, 3, 4, 17), setCall(0, 0, 4, 9))
	add("no entry", k, 3, setCall(0, 3, 0, 2), setCall(0, 3, 0, 9999), setCall(0, 3, 0, 10000), setCall(0, 3, 0, -1), setCall(0, 0, 0, 49))
	add("another kind", k, 3, setCall(0, 3, 0, 41), setCall(0, 3, 0, 5), setCall(0, 3, 0, 9), setCall(0, 1, 0, 3), setCall(0, 1, 0, 23), setCall(0, 1, 0, 43))
	add("no right, no table", k, 1, setCall(1, 5, 0, 0), setCall(0, 7, 0, 0))
	add("no right, no place", k, 1, setCall(1, 3, 4, 0), setCall(1, 0, -1, 9))
	add("no right, no entry", k, 1, setCall(1, 3, 0, 9999), setCall(1, 0, 0, 2))
	add("no right, another kind", k, 1, setCall(1, 3, 0, 9), setCall(1, 1, 0, 43))
	add("no place, no right for the frame", k, 3, setCall(0, 2, 4, 31), setCall(0, 3, -1, 29), setCall(0, 0, 4, 39))
	add("no table, no right for the frame", k, 3, setCall(0, 5, 0, 29))
	add("another kind, no right for the frame", k, 3, setCall(0, 2, 0, 33), setCall(0, 3, 0, 35), setCall(0, 0, 0, 31), setCall(0, 1, 0, 31))
	add("no place, others without the right", both, 3, setCall(1, 2, 4, 31), setCall(1, 0, -1, 33))
	add("another kind, others without the right", both, 3, setCall(1, 2, 0, 35), setCall(1, 0, 0, 31))
	add("others without the right", both, 1, setCall(1, 2, 0, 31), setCall(1, 2, 3, 29), setCall(1, 0, 1, 33), setCall(2, 0, 0, 35), setCall(2, 2, 0, 29))
	add("the last one without the right", shared, 1, setCall(0, 2, 0, 31), setCall(0, 0, 1, 33), setCall(0, 0, 3, 37))
	add("no right for what the table names", k, 1, setCall(0, 0, 1, 37), setCall(0, 0, 0, 39))
	add("no right for the frame", k, 1, setCall(0, 3, 0, 31), setCall(0, 1, 2, 33), setCall(0, 1, 3, 35))
	add("no right for the frame, nor of those who reach it", k, 1, setCall(0, 2, 2, 31), setCall(0, 0, 3, 33))
	add("no right for the frame of one who does not reach it", withRights(k, 0, "a", "b"), 0, setCall(0, 2, 0, 31), setCall(0, 0, 1, 39))
	add("no right for what the table names, but nobody reaches it", k, 0, setCall(0, 1, 1, 37), setCall(0, 1, 3, 39))
	add("an entry goes", k, 0, setCall(0, 2, 0, 0), setCall(0, 0, 0, 0), setCall(0, 9, 2, 0))
	return all
}

// ordersOfRoots are those of CallRoot. A lower table under the right b, or one that names a frame under it, is named by the upper table 1.
func ordersOfRoots() []namedCode {
	k := withRights(orderKernel(), 2, "")
	table, frame := withTables(k, 1, []int{0, 0, 0, 33}), withTables(k, 1, []int{0, 39, 0, 0})
	return []namedCode{
		{"no frame", k, rootCall(2, -2), 3},
		{"no frame", k, rootCall(0, 12), 3},
		{"a free frame", k, rootCall(2, 10), 3},
		{"a free frame, no right", k, rootCall(0, 11), 3},
		{"data", k, rootCall(0, 5), 3},
		{"a lower table", k, rootCall(0, 3), 3},
		{"data, no right", k, rootCall(1, 5), 3},
		{"a lower table, no right", k, rootCall(1, 2), 3},
		{"a lower table, no right for a frame", k, rootCall(0, 9), 3},
		{"no right", k, rootCall(1, 1), 1},
		{"no right at all", k, rootCall(1, 0), 1},
		{"no right for the lower table", table, rootCall(0, 1), 1},
		{"no right for the frame", frame, rootCall(0, 1), 1},
		{"no right for the upper table", table, rootCall(1, 1), 1},
		{"no right for the lower table alone", withRights(frame, 1, "aa", "b"), rootCall(1, 1), 1},
		{"no upper table", k, rootCall(1, -1), 0},
		{"all rights", frame, rootCall(2, 1), 0},
		{"rights", k, rootCall(0, 1), 0},
	}
}

// ordersOfNames are those of the calls with a Name. Nobody but environment 2 has rights in bare; in full, no frame is free; in many, environment 1 has as many rights as there may be; and in
// shared, it has the upper table of environment 0.
func ordersOfNames() []namedCode {
	k, bare := orderKernel(), withRights(orderKernel(), 2, "")
	full := changedKernel(k, func(k *impl.Kernel) { k.Infos[10], k.Infos[11] = info(1, "c", 0), info(1, "", 0) })
	many := withRights(k, 1, "aa", "ab", "ac", "ba", "bb", "bc")
	shared := withRoot(withRights(k, 1, "a"), 1, 0)
	return []namedCode{
		{"take, no name", bare, takeCall(2, "d"), 3},
		{"take, no right", k, takeCall(0, "b"), 1},
		{"take, a shorter right", k, takeCall(0, ""), 1},
		{"take, full", full, takeCall(0, "a"), 4},
		{"take, no name, no right", k, takeCall(2, "d"), 3},
		{"take, no name that begins with a right", k, takeCall(0, "ad"), 3},
		{"take, no name, full", full, takeCall(0, "aaaaa"), 3},
		{"take, no right, full", full, takeCall(0, "b"), 1},
		{"take, no name, no right, full", full, takeCall(2, "A"), 3},
		{"grant, no environment", k, grantCall(0, -1, "a"), 3},
		{"grant, no environment behind the last one", k, grantCall(0, 3, "aa"), 3},
		{"grant, no name", k, grantCall(0, 1, "ad"), 3},
		{"grant, no right", k, grantCall(0, 1, "b"), 1},
		{"grant, full", many, grantCall(0, 1, "a"), 4},
		{"grant, no environment, no name", k, grantCall(0, 3, "d"), 3},
		{"grant, no environment, no right", k, grantCall(0, -1, "b"), 3},
		{"grant, no name, no right", k, grantCall(2, 1, "d"), 3},
		{"grant, no name, full", many, grantCall(0, 1, "aaaaa"), 3},
		{"grant, no right, full", many, grantCall(0, 1, "b"), 1},
		{"revoke, no environment", k, revokeCall(0, -1, "a"), 3},
		{"revoke, no environment behind the last one", k, revokeCall(0, 3, "a"), 3},
		{"revoke, itself", k, revokeCall(0, 0, "ab"), 3},
		{"revoke, no name", k, revokeCall(0, 1, "ad"), 3},
		{"revoke, no right", k, revokeCall(0, 1, "b"), 1},
		{"revoke, busy", shared, revokeCall(0, 1, "a"), 2},
		{"revoke, itself, no name", k, revokeCall(0, 0, "d"), 3},
		{"revoke, itself, no right", k, revokeCall(0, 0, "b"), 3},
		{"revoke, itself, busy", k, revokeCall(0, 0, "a"), 3},
		{"revoke, no environment, no right", k, revokeCall(0, 3, "b"), 3},
		{"revoke, no name, no right", k, revokeCall(2, 1, "d"), 3},
		{"revoke, no name, busy", shared, revokeCall(0, 1, "aaaaa"), 3},
		{"revoke, no right, busy", shared, revokeCall(2, 1, "a"), 1},
		{"revoke, no right, busy for a shorter right", shared, revokeCall(0, 1, ""), 1},
	}
}

// ordersOfWords are those of CallLoad and CallStore. Of environment 0, the pages 0, 1 and 8 can only be read, as both entries tell, that of the upper table, or that of the
// lower one; page 9 may be written.
func ordersOfWords() []namedCode {
	k := orderKernel()
	all := []namedCode{}
	add := func(name string, env int, address int, load int, store int) {
		all = append(all,
			namedCode{"load, " + name, k, loadCall(env, address), load},
			namedCode{"store, " + name, k, storeCall(env, address, 9999), store},
			namedCode{"store, no word, " + name, k, storeCall(env, address, 10000), 3},
			namedCode{"store, a negative word, " + name, k, storeCall(env, address, -1), 3})
	}
	add("no address", 0, -1, 3, 3)
	add("no address behind the last one", 0, 64, 3, 3)
	add("no root", 1, 0, 3, 3)
	add("no root, no address", 2, 64, 3, 3)
	add("nothing in the upper table", 0, 16, 3, 3)
	add("nothing in the lower table", 0, 8, 3, 3)
	add("the upper table's entry", 0, 4, 0, 1)
	add("the lower table's entry", 0, 32, 0, 1)
	add("both entries", 0, 3, 0, 1)
	add("to be written", 0, 39, 0, 0)
	return all
}

// P73 to P92: for each kind of call, each condition that fails alone, and each pair of conditions of which the first one tells the code. What is refused changes nothing.
func TestOrderOfCodes(t *testing.T) {
	rows := ordersOfFrames()
	for _, more := range [][]namedCode{ordersOfPins(), ordersOfSets(), ordersOfRoots(), ordersOfNames(), ordersOfWords()} {
		rows = append(rows, more...)
	}
	for _, x := range rows {
		for by := range 12 {
			k := turnedKernel(x.k, by)
			c := turnedCall(x.call, by)
			if x.code == 0 {
				checkCode(t, k, c, 0)
			} else {
				checkRefused(t, k, c, x.code)
			}
		}
		if t.Failed() {
			t.Fatalf("with %s", x.name)
		}
	}
}

// turnedCall is the call in a kernel whose frames lie some frames farther on, in a circle. What is no frame and names none remains.
func turnedCall(c impl.Call, by int) impl.Call {
	if (c.Kind >= 2 && c.Kind <= 7) && within(c.A, 12) {
		c.A = (c.A + by) % 12
	}
	if c.Kind == 6 {
		c.C = turnedWord(c.C, by)
	}
	return c
}
