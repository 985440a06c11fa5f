package tests

import (
	"slices"
	"testing"

	"loop.example/exopager/impl"
)

// change is one of the three functions that return a memory, with all its arguments but the memory.
type change struct {
	name string
	run  func(m [][]int) ([][]int, bool)
}

// changes has all three functions, with each frame.
func changes() []change {
	list := []change{}
	for frame := range 12 {
		at, other := frame%4, (5*frame+7)%12
		list = append(list,
			change{"MemoryPut", func(m [][]int) ([][]int, bool) { return impl.MemoryPut(m, frame, at, 4321) }},
			change{"MemoryCopy", func(m [][]int) ([][]int, bool) { return impl.MemoryCopy(m, frame, other) }},
			change{"MemoryCopy to itself", func(m [][]int) ([][]int, bool) { return impl.MemoryCopy(m, frame, frame) }},
			change{"MemoryClear", func(m [][]int) ([][]int, bool) { return impl.MemoryClear(m, frame) }})
	}
	return list
}

// checkMemory compares a result with the memory that is wanted.
func checkMemory(t *testing.T, got [][]int, ok bool, want [][]int) {
	t.Helper()
	if !ok || !sameMemory(got, want) {
		t.Errorf("returned %v, %t, not %v", got, ok, want)
	}
}

func checkNoMemory(t *testing.T, got [][]int, ok bool) {
	t.Helper()
	if ok || len(got) != 0 {
		t.Errorf("returned %v, %t", got, ok)
	}
}

// P9
func TestMemoryGetOfAllPlaces(t *testing.T) {
	for _, m := range memories() {
		for frame := range 12 {
			for at := range 4 {
				word, ok := impl.MemoryGet(m, frame, at)
				if !ok || word != m[frame][at] || word < 0 || word > 9999 {
					t.Errorf("MemoryGet of %d, %d is %d, %t, not %d", frame, at, word, ok, m[frame][at])
				}
			}
		}
	}
}

// P9
func TestMemoryGetOfTheFirstAndTheLastPlace(t *testing.T) {
	m := someMemory()
	if word, ok := impl.MemoryGet(m, 0, 0); word != 0 || !ok {
		t.Errorf("the first word is %d, %t", word, ok)
	}
	if word, ok := impl.MemoryGet(m, 11, 3); word != 9999 || !ok {
		t.Errorf("the last word is %d, %t", word, ok)
	}
}

// P9
func TestMemoryGetOfNoPlace(t *testing.T) {
	m := evenMemory(7)
	check := func(frame int, at int) {
		if word, ok := impl.MemoryGet(m, frame, at); word != 0 || ok {
			t.Errorf("MemoryGet of %d, %d is %d, %t", frame, at, word, ok)
		}
	}
	for _, frame := range noneOf(12) {
		for at := -1; at <= 4; at++ {
			check(frame, at)
		}
	}
	for _, at := range noneOf(4) {
		for frame := -1; frame <= 12; frame++ {
			check(frame, at)
		}
	}
}

// P10, P11: every place, with words that are there already, too.
func TestMemoryPutOfAllPlaces(t *testing.T) {
	for _, m := range memories() {
		for frame := range 12 {
			for at := range 4 {
				old := m[frame][at]
				for _, word := range []int{0, 1, 2, 47, 4999, 9998, 9999, old} {
					got, ok := impl.MemoryPut(m, frame, at, word)
					checkMemory(t, got, ok, withWord(m, frame, at, word))
					if x, fine := impl.MemoryGet(got, frame, at); x != word || !fine {
						t.Errorf("MemoryGet of %d, %d is %d, %t, not %d", frame, at, x, fine, word)
					}
					back, fine := impl.MemoryPut(got, frame, at, old)
					checkMemory(t, back, fine, m)
				}
			}
		}
	}
}

// P10: all words in range, and many that are not.
func TestMemoryPutOfAllWords(t *testing.T) {
	m := someMemory()
	for _, word := range allNumbers() {
		got, ok := impl.MemoryPut(m, 5, 2, word)
		if word < 0 || word > 9999 {
			checkNoMemory(t, got, ok)
			continue
		}
		checkMemory(t, got, ok, withWord(m, 5, 2, word))
	}
}

// P10
func TestMemoryPutOfAWordOutOfRange(t *testing.T) {
	for frame := range 12 {
		for at := range 4 {
			for _, word := range badWords() {
				got, ok := impl.MemoryPut(someMemory(), frame, at, word)
				checkNoMemory(t, got, ok)
			}
		}
	}
}

// P10: one of both does not exist, or neither does.
func TestMemoryPutOfNoPlace(t *testing.T) {
	m := someMemory()
	for _, frame := range noneOf(12) {
		for at := -1; at <= 4; at++ {
			got, ok := impl.MemoryPut(m, frame, at, 7)
			checkNoMemory(t, got, ok)
		}
	}
	for _, at := range noneOf(4) {
		for frame := -1; frame <= 12; frame++ {
			got, ok := impl.MemoryPut(m, frame, at, 7)
			checkNoMemory(t, got, ok)
		}
	}
}

// P12: any two frames, and each one to itself.
func TestMemoryCopyOfAllFrames(t *testing.T) {
	for _, m := range memories() {
		for from := range 12 {
			for to := range 12 {
				got, ok := impl.MemoryCopy(m, from, to)
				checkMemory(t, got, ok, with(m, to, m[from]...))
			}
		}
	}
}

// P12
func TestMemoryCopyOfNoFrame(t *testing.T) {
	m := someMemory()
	for _, far := range noneOf(12) {
		for frame := range 12 {
			got, ok := impl.MemoryCopy(m, far, frame)
			checkNoMemory(t, got, ok)
			got, ok = impl.MemoryCopy(m, frame, far)
			checkNoMemory(t, got, ok)
		}
		got, ok := impl.MemoryCopy(m, far, far)
		checkNoMemory(t, got, ok)
	}
}

// P13: frames that are clear already, too.
func TestMemoryClearOfAllFrames(t *testing.T) {
	for _, m := range memories() {
		for frame := range 12 {
			got, ok := impl.MemoryClear(m, frame)
			checkMemory(t, got, ok, with(m, frame, 0, 0, 0, 0))
			again, ok := impl.MemoryClear(got, frame)
			checkMemory(t, again, ok, got)
		}
	}
}

// P13
func TestMemoryClearOfNoFrame(t *testing.T) {
	m := someMemory()
	for _, frame := range noneOf(12) {
		got, ok := impl.MemoryClear(m, frame)
		checkNoMemory(t, got, ok)
	}
}

// P14
func TestMemoryValid(t *testing.T) {
	for _, m := range memories() {
		if !impl.MemoryValid(m) {
			t.Errorf("%v is invalid", m)
		}
		for frame := range 12 {
			if less := slices.Delete(copyOf(m), frame, frame+1); impl.MemoryValid(less) {
				t.Errorf("%v is valid", less)
			}
			for at := range 4 {
				if more := withWord(m, frame, at, 10000); impl.MemoryValid(more) {
					t.Errorf("%v is valid", more)
				}
			}
		}
	}
}

// P14: at one place, all numbers.
func TestMemoryValidOfAllWords(t *testing.T) {
	m := someMemory()
	for _, word := range allNumbers() {
		m[11][3] = word
		if ok := impl.MemoryValid(m); ok != (word >= 0 && word <= 9999) {
			t.Errorf("with the word %d a memory is valid: %t", word, ok)
		}
	}
}

// P9, P10, P12, P13, P14: what is wrong may lie in a frame that the call does not name.
func TestInvalidMemories(t *testing.T) {
	for _, x := range invalidMemories() {
		if impl.MemoryValid(x.m) {
			t.Errorf("valid: %s", x.name)
		}
		for frame := range 12 {
			if word, ok := impl.MemoryGet(x.m, frame, frame%4); word != 0 || ok {
				t.Errorf("MemoryGet with %s is %d, %t", x.name, word, ok)
			}
		}
		for _, c := range changes() {
			if got, ok := c.run(x.m); ok || len(got) != 0 {
				t.Errorf("%s with %s is %v, %t", c.name, x.name, got, ok)
			}
		}
	}
}

// P10, P12, P13: a result that has the same words as the argument is another one, too.
func TestChangesShareNothingWithTheMemory(t *testing.T) {
	for _, c := range changes() {
		m := someMemory()
		got, ok := c.run(m)
		if !ok || !sameMemory(m, someMemory()) {
			t.Fatalf("%s returns %t, and leaves %v", c.name, ok, m)
		}
		want := copyOf(got)
		spoil(m)
		if !sameMemory(got, want) {
			t.Errorf("%s: a change of the argument changes the result", c.name)
		}
		m = someMemory()
		got, _ = c.run(m)
		spoil(got)
		if !sameMemory(m, someMemory()) {
			t.Errorf("%s: a change of the result changes the argument", c.name)
		}
	}
}

// spoil writes to all that can be reached from a memory, within the capacities of its slices, too.
func spoil(m [][]int) {
	for _, words := range m[:cap(m)] {
		for i := range words[:cap(words)] {
			words[:cap(words)][i] = -77
		}
	}
	for i := range m[:cap(m)] {
		m[:cap(m)][i] = nil
	}
}

// P10, P12, P13: a call does not write to the memory behind its argument, and keeps nothing of it.
func TestChangesOfAMemoryWithRoom(t *testing.T) {
	for _, c := range changes() {
		store := make([]int, 13*8)
		for i := range store {
			store[i] = i
		}
		outer := make([][]int, 0, 20)
		for frame := range 12 {
			outer = append(outer, store[8*frame:8*frame+4])
		}
		plain := copyOf(outer)
		want, _ := c.run(plain)
		got, ok := c.run(outer)
		checkMemory(t, got, ok, want)
		for i := range store {
			if store[i] != i {
				t.Errorf("%s changes what lies at %d", c.name, i)
			}
		}
		for _, words := range outer[12:cap(outer)] {
			if words != nil {
				t.Errorf("%s writes behind the frames", c.name)
			}
		}
		spoil(outer)
		checkMemory(t, got, ok, want)
	}
}

// P10, P12, P13: no two frames of a result share memory.
func TestFramesOfAResultShareNothing(t *testing.T) {
	for _, c := range changes() {
		got, _ := c.run(someMemory())
		want := copyOf(got)
		for frame := range got {
			words := append(got[frame], -1, -2, -3, -4)
			for i := range words {
				words[i] = -5
			}
			room := got[frame][:cap(got[frame])]
			for i := range room {
				room[i] = -6
			}
			for other := range got {
				if other > frame && !slices.Equal(got[other], want[other]) {
					t.Errorf("%s: a change of frame %d changes frame %d", c.name, frame, other)
				}
				if other < frame && !slices.Equal(got[other], []int{-6, -6, -6, -6}) {
					t.Errorf("%s: a change of frame %d changes frame %d", c.name, frame, other)
				}
			}
		}
	}
}

// P10, P12, P13: the frames of an argument may be one and the same slice; those of the result are not.
func TestFramesOfAnArgumentAreOneSlice(t *testing.T) {
	for _, c := range changes() {
		words := []int{5, 6, 7, 8}
		m := [][]int{}
		for range 12 {
			m = append(m, words)
		}
		want, _ := c.run(copyOf(m))
		got, ok := c.run(m)
		checkMemory(t, got, ok, want)
		if !slices.Equal(words, []int{5, 6, 7, 8}) {
			t.Errorf("%s changes its argument to %v", c.name, words)
		}
		got[0][0] = 9000
		if !sameMemory(got[1:], want[1:]) {
			t.Errorf("%s: the frames of the result share memory", c.name)
		}
	}
}

// P14: reading leaves the memory as it is; so does a call that fails.
func TestReadingAndFailingLeaveTheMemory(t *testing.T) {
	m := someMemory()
	impl.MemoryValid(m)
	impl.MemoryGet(m, 3, 2)
	impl.MemoryPut(m, 3, 2, 10000)
	impl.MemoryPut(m, 3, 4, 7)
	impl.MemoryPut(m, 12, 2, 7)
	impl.MemoryCopy(m, 3, 12)
	impl.MemoryCopy(m, 12, 3)
	impl.MemoryClear(m, -1)
	if !sameMemory(m, someMemory()) {
		t.Errorf("the memory is %v", m)
	}
	for _, x := range invalidMemories() {
		before := copyOf(x.m)
		impl.MemoryValid(x.m)
		for _, c := range changes() {
			c.run(x.m)
		}
		if !sameMemory(x.m, before) {
			t.Errorf("%s is changed to %v", x.name, x.m)
		}
	}
}

// P10, P13: a call depends on nothing that earlier calls did.
func TestNoMemoryIsKept(t *testing.T) {
	first, _ := impl.MemoryPut(someMemory(), 4, 1, 77)
	impl.MemoryPut(evenMemory(9999), 4, 1, 0)
	impl.MemoryClear(evenMemory(9999), 4)
	again, ok := impl.MemoryPut(someMemory(), 4, 1, 77)
	checkMemory(t, again, ok, first)
	checkMemory(t, first, ok, withWord(someMemory(), 4, 1, 77))
}
