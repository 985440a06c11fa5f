package tests

import (
	"slices"
	"strconv"
	"testing"

	"loop.example/exopager/impl"
)

// frameValues are 2 to the power of each frame.
var frameValues = []int{1, 2, 4, 8, 16, 32, 64, 128, 256, 512, 1024, 2048}

// numberHas finds a frame by division, not by shifts as the program does.
func numberHas(n int, frame int) bool {
	return n/frameValues[frame]%2 == 1
}

// framesWhere are the frames for which a condition holds, in ascending order.
func framesWhere(holds func(frame int) bool) []int {
	list := []int{}
	for frame := range 12 {
		if holds(frame) {
			list = append(list, frame)
		}
	}
	return list
}

func framesOfNumber(n int) []int {
	return framesWhere(func(frame int) bool { return numberHas(n, frame) })
}

// sumOf is the number of frames that are all different.
func sumOf(frames []int) int {
	sum := 0
	for _, frame := range frames {
		sum += frameValues[frame]
	}
	return sum
}

func allFrames() []int {
	return []int{0, 1, 2, 3, 4, 5, 6, 7, 8, 9, 10, 11}
}

func backward(list []int) []int {
	other := slices.Clone(list)
	slices.Reverse(other)
	return other
}

// orders has the list, its other direction, and mixed orders: begun at each place, from both ends in turn, and by a rule without any order.
func orders(list []int) [][]int {
	all := [][]int{list, backward(list), bothEnds(list)}
	for at := 1; at < len(list); at++ {
		all = append(all, slices.Concat(list[at:], list[:at]))
	}
	mixed := slices.Clone(list)
	for i := range mixed {
		at := (7*i*i + 3*i + 5) % len(mixed)
		mixed[i], mixed[at] = mixed[at], mixed[i]
	}
	return append(all, mixed)
}

func bothEnds(list []int) []int {
	turns := []int{}
	for i := range list {
		if i%2 == 0 {
			turns = append(turns, list[i/2])
		} else {
			turns = append(turns, list[len(list)-1-i/2])
		}
	}
	return turns
}

// shortLists are all lists of up to four different frames, in any order.
func shortLists() [][]int {
	all := [][]int{{}}
	from := 0
	for range 4 {
		to := len(all)
		for _, list := range all[from:to] {
			for frame := range 12 {
				if !slices.Contains(list, frame) {
					all = append(all, append(slices.Clone(list), frame))
				}
			}
		}
		from = to
	}
	return all
}

// someNumbers are those of no frame, one, two and three frames, of all frames but these, of each second or third one, of neighbours, and some others.
func someNumbers() []int {
	list := []int{0, 4095, 1365, 2730, 585, 1170, 2340, 63, 4032, 15, 240, 3840, 819, 3276}
	for a := range 12 {
		for b := a; b < 12; b++ {
			n := sumOf(slices.Compact([]int{a, b}))
			list = append(list, n, 4095-n)
		}
		n := sumOf([]int{a, (a + 4) % 12, (a + 5) % 12})
		list = append(list, n, 4095-n)
	}
	n := 1
	for range 60 {
		n = (n*1103 + 12345) % 1000003
		list = append(list, n%4096)
	}
	return list
}

// noNumbers are not in the range of numbers of sets.
func noNumbers() []int {
	return slices.DeleteFunc(allNumbers(), func(n int) bool { return n >= 0 && n <= 4095 })
}

type namedList struct {
	name string
	list []int
}

// twiceLists have one frame twice, at any two places: alone, and among some or all others, in any direction.
func twiceLists() []namedList {
	all := []namedList{}
	for _, start := range [][]int{{0}, {5}, {11}, {0, 1}, {3, 9}, {11, 10}, {0, 5, 11}, {2, 4, 6, 8}, allFrames(), backward(allFrames()), bothEnds(allFrames())} {
		for from, frame := range start {
			for to := range len(start) + 1 {
				name := "the frame at " + strconv.Itoa(from) + " again at " + strconv.Itoa(to)
				all = append(all, namedList{name, slices.Insert(slices.Clone(start), to, frame)})
			}
		}
	}
	return all
}

// oftenLists have frames more often than twice, or several ones twice: so often that a sum of their powers would be in range, or even that of a set that could be meant.
func oftenLists() []namedList {
	all := []namedList{
		{"two twice", []int{0, 0, 1, 1}},
		{"two in turn", []int{4, 9, 4, 9}},
		{"two from both ends", []int{4, 9, 9, 4}},
		{"all twice", slices.Repeat(allFrames(), 2)},
		{"all twice, neighbouring", []int{0, 0, 1, 1, 2, 2, 3, 3, 4, 4, 5, 5, 6, 6, 7, 7, 8, 8, 9, 9, 10, 10, 11, 11}},
		{"all and back", slices.Concat(allFrames(), backward(allFrames()))},
	}
	for _, many := range []int{3, 4, 5, 8, 16, 31, 32, 33, 64, 256, 257, 4095, 4096, 4097, 65536, 65537} {
		for _, frame := range []int{0, 1, 6, 11} {
			all = append(all, namedList{strconv.Itoa(frame) + " as often as " + strconv.Itoa(many), slices.Repeat([]int{frame}, many)})
		}
	}
	return all
}

// noFrameLists have a number that is no frame at each place of lists of some lengths.
func noFrameLists() []namedList {
	all := []namedList{}
	for _, start := range [][]int{{}, {0}, {11}, {7, 3}, {0, 5, 11}, {2, 4, 6, 8}, {1, 2, 3, 4, 5, 6, 7, 8, 9, 10, 11}, backward(allFrames())} {
		for to := range len(start) + 1 {
			for _, n := range append(badWords(), 12, 13, 15, 16, 31, 32, 63, 64, 65, 4095, 4096, -11, -12, -64) {
				name := strconv.Itoa(n) + " at " + strconv.Itoa(to) + " of " + strconv.Itoa(len(start))
				all = append(all, namedList{name, slices.Insert(slices.Clone(start), to, n)})
			}
		}
	}
	return all
}

func invalidLists() []namedList {
	return slices.Concat(twiceLists(), oftenLists(), noFrameLists())
}

func checkBitsOf(t *testing.T, list []int, want int) {
	t.Helper()
	if n, ok := impl.BitsOf(list); n != want || !ok {
		t.Errorf("BitsOf(%v) is %d, %t, not %d", list, n, ok, want)
	}
}

func checkNoBitsOf(t *testing.T, list []int) {
	t.Helper()
	if n, ok := impl.BitsOf(list); n != 0 || ok {
		t.Errorf("BitsOf(%v) is %d, %t", list[:min(len(list), 40)], n, ok)
	}
}

func checkBitsList(t *testing.T, n int, want ...int) {
	t.Helper()
	if got := impl.BitsList(n); !slices.Equal(got, want) {
		t.Errorf("BitsList(%d) is %v, not %v", n, got, want)
	}
}

func checkBitsHas(t *testing.T, n int, frame int, want bool) {
	t.Helper()
	if got := impl.BitsHas(n, frame); got != want {
		t.Errorf("BitsHas(%d, %d) is %t", n, frame, got)
	}
}

func checkJoin(t *testing.T, a int, b int, want int) {
	t.Helper()
	if got := impl.BitsJoin(a, b); got != want {
		t.Errorf("BitsJoin(%d, %d) is %d, not %d", a, b, got, want)
	}
}

func checkWithout(t *testing.T, a int, b int, want int) {
	t.Helper()
	if got := impl.BitsWithout(a, b); got != want {
		t.Errorf("BitsWithout(%d, %d) is %d, not %d", a, b, got, want)
	}
}
