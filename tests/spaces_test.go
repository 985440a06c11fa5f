package tests

// badEntries are words that name no frame: the empty entry, words between entries, and those that would name frames from 12 on.
func badEntries() []int {
	return []int{0, 2, 4, 6, 8, 44, 46, 48, 49, 50, 51, 52, 53, 55, 63, 97, 99, 401, 4095, 4097, 9996, 9997, 9998, 9999}
}

// spaceMemory has the upper table in frame 2, lower tables in the frames 5, 7 and 11, and tables in frame 1 that nothing of this names.
func spaceMemory() [][]int {
	return [][]int{
		{9999, 9998, 6, 2},
		{3, 7, 11, 15},
		{23, 29, 0, 47},
		{100, 200, 300, 400},
		{0, 1, 0, 3},
		{3, 13, 0, 47},
		{0, 0, 0, 0},
		{19, 48, 1, 23},
		{4, 44, 444, 4444},
		{2, 4, 6, 8},
		{21, 25, 29, 33},
		{45, 11, 9999, 47},
	}
}

// page is what a walk tells of all addresses of one page.
type page struct {
	frame int
	write bool
	code  int
}

// spacePages are the pages of spaceMemory, written out.
func spacePages() []page {
	top, low := page{0, false, 1}, page{0, false, 2}
	return []page{
		{0, true, 0}, {3, false, 0}, low, {11, true, 0},
		{4, false, 0}, low, {0, false, 0}, {5, false, 0},
		top, top, top, top,
		{11, false, 0}, {2, true, 0}, low, {11, true, 0},
	}
}

// turned is the memory whose frames lie some frames farther on, in a circle; entries name them where they lie now.
func turned(m [][]int, by int) [][]int {
	list := make([][]int, 12)
	for frame, words := range m {
		to := (frame + by) % 12
		for _, word := range words {
			list[to] = append(list[to], turnedWord(word, by))
		}
	}
	return list
}

func turnedWord(word int, by int) int {
	frame, write, ok := named(word)
	switch {
	case !ok:
		return word
	case write:
		return writeEntries[(frame+by)%12]
	}
	return readEntries[(frame+by)%12]
}

// entriesMemory has words that are mostly entries, and depend on the number by a short rule.
func entriesMemory(number int) [][]int {
	m := mixedMemory(number)
	for _, words := range m {
		for at := range words {
			words[at] = words[at] % 60
		}
	}
	return m
}

// selfMemory has tables that name only themselves.
func selfMemory() [][]int {
	m := [][]int{}
	for frame := range 12 {
		m = append(m, []int{readEntries[frame], writeEntries[frame], writeEntries[frame], readEntries[frame]})
	}
	return m
}

// pairsMemory has tables of which each two name each other, and nothing else.
func pairsMemory() [][]int {
	m := [][]int{}
	for frame := range 12 {
		other := 11 - frame
		m = append(m, []int{writeEntries[other], 0, 9999, readEntries[other]})
	}
	return m
}

// chainMemory has tables that name the next ones, the first one behind the last one.
func chainMemory() [][]int {
	m := [][]int{}
	for frame := range 12 {
		m = append(m, []int{writeEntries[(frame+4)%12], readEntries[(frame+3)%12], writeEntries[(frame+2)%12], writeEntries[(frame+1)%12]})
	}
	return m
}

// spaces are memories with tables of all kinds, and those that have hardly any.
func spaces() [][][]int {
	list := [][][]int{selfMemory(), pairsMemory(), chainMemory()}
	for by := range 12 {
		list = append(list, turned(spaceMemory(), by))
	}
	for number := range 40 {
		list = append(list, entriesMemory(number))
	}
	for _, word := range []int{1, 3, 45, 47} {
		list = append(list, evenMemory(word))
	}
	return append(list, memories()...)
}

// pageOf tells of a page what the words of the memory tell, by the lists of all entries.
func pageOf(m [][]int, root int, top int, low int) page {
	table, first, ok := named(m[root][top])
	if !ok {
		return page{0, false, 1}
	}
	frame, second, ok := named(m[table][low])
	if !ok {
		return page{0, false, 2}
	}
	return page{frame, first && second, 0}
}
