package tests

import (
	"math"
	"slices"
	"strconv"
)

// someMemory has a different word in each of its 48 places: 0 in the first one, and 9999 in the last one.
func someMemory() [][]int {
	m := [][]int{}
	for frame := range 12 {
		m = append(m, []int{200*frame + 1, 200*frame + 50, 200*frame + 100, 200*frame + 150})
	}
	m[0][0], m[11][3] = 0, 9999
	return m
}

// evenMemory has the same word everywhere.
func evenMemory(word int) [][]int {
	m := [][]int{}
	for range 12 {
		m = append(m, []int{word, word, word, word})
	}
	return m
}

// mixedMemory has words all over the range, which depend on the number by a short rule.
func mixedMemory(number int) [][]int {
	m := evenMemory(0)
	for i := range 48 {
		number = (number*1103 + 12345) % 1000003
		m[i/4][i%4] = number % 10000
	}
	return m
}

func memories() [][][]int {
	list := [][][]int{someMemory(), evenMemory(0), evenMemory(9999), evenMemory(7)}
	for number := range 6 {
		list = append(list, mixedMemory(number))
	}
	return list
}

func copyOf(m [][]int) [][]int {
	list := [][]int{}
	for _, words := range m {
		list = append(list, slices.Clone(words))
	}
	return list
}

func sameMemory(a [][]int, b [][]int) bool {
	return slices.EqualFunc(a, b, func(x []int, y []int) bool { return slices.Equal(x, y) })
}

// with is the memory that has other words in one frame.
func with(m [][]int, frame int, words ...int) [][]int {
	list := copyOf(m)
	list[frame] = words
	return list
}

// withWord is the memory that has another word at one place.
func withWord(m [][]int, frame int, at int, word int) [][]int {
	list := copyOf(m)
	list[frame][at] = word
	return list
}

type namedMemory struct {
	name string
	m    [][]int
}

func badWords() []int {
	return []int{-1, -2, -9999, -10000, 10000, 10001, 19999, -1 << 31, -1<<32 + 5, 1<<31 + 5, 1 << 32, 1<<32 + 5, math.MinInt, math.MinInt + 5, math.MaxInt}
}

// invalidMemories have each one fault: the number of frames, that of the words of a frame, or one word. Each frame and each place has its turn.
func invalidMemories() []namedMemory {
	list := []namedMemory{{"nil", nil}, {"no frames", [][]int{}}, {"frames of nil", make([][]int, 12)}}
	add := func(name string, m [][]int) { list = append(list, namedMemory{name, m}) }
	for _, n := range []int{1, 2, 4, 10, 11, 13, 14, 16, 24, 48, 100} {
		m := [][]int{}
		for range n {
			m = append(m, []int{1, 2, 3, 4})
		}
		add(strconv.Itoa(n)+" frames", m)
	}
	for frame := range 12 {
		at := "in frame " + strconv.Itoa(frame) + " "
		add(at+"nil", with(someMemory(), frame))
		for _, words := range [][]int{{}, {1}, {1, 2}, {1, 2, 3}, {1, 2, 3, 4, 5}, {0, 0, 0, 0, 0, 0, 0, 0}} {
			add(at+strconv.Itoa(len(words))+" words", with(someMemory(), frame, words...))
		}
		for place := range 4 {
			for _, word := range badWords() {
				add(at+"the word "+strconv.Itoa(word), withWord(someMemory(), frame, place, word))
			}
		}
		m := someMemory()
		m[frame], m[(frame+1)%12] = []int{1, 2, 3}, []int{1, 2, 3, 4, 5}
		add(at+"a word less than in the next one", m)
		m = someMemory()
		add("without frame "+strconv.Itoa(frame), slices.Delete(m, frame, frame+1))
		m = someMemory()
		add("frame "+strconv.Itoa(frame)+" twice", slices.Insert(m, frame, slices.Clone(m[frame])))
	}
	return list
}

// noneOf are numbers from a limit on or below 0, near it and far away.
func noneOf(limit int) []int {
	list := []int{}
	for _, n := range append(farNumbers(), badWords()...) {
		if n < 0 || n >= limit {
			list = append(list, n)
		}
	}
	for n := -70; n <= 70; n++ {
		if n < 0 || n >= limit {
			list = append(list, n)
		}
	}
	return list
}
